/- Read off the code by the clean reading. -/
import Derived.Test.YthpoeegoankpoaaGreatClnMa
set_option linter.unusedVariables false
set_option linter.unusedSimpArgs false
set_option linter.deprecated false
set_option maxRecDepth 100000
namespace Go.Proofs.YthpoeegoankpoaaGreat
open Go.ChangeShapes Go.WideShapes Go.ChangeAt Go.RowKit Go.Cln
namespace ob
set_option linter.unusedVariables false
noncomputable section
def upE (x : MX) (P i : Nat) : Bool := !decide ((x.U P).getD (0 + (nI (i + 1) - 1).toNat * 1) 0 ≥ (x.U P).getD (0 + (i + 1) * 1) 0)
noncomputable def riseE (x : MX) (P n : Nat) : Bool := allB (upE x P) (n - 1)
noncomputable def isntE (x : MX) (P : Nat) (w : Int) (i : Nat) : Bool := !(w == (x.U P).getD (0 + i * 1) 0)
noncomputable def hasE (x : MX) (P n : Nat) (w : Int) : Bool := !allB (isntE x P w) n
def b82 : Code := ((Tryz.prog.funcs[82]?).bind (·.body)).getD .skip
def l82 : Code := loopB Tryz.prog 82 0
def e82 : Code := dropC 2 b82
theorem fn82 : (Tryz.prog.funcs[82]?).map (fun f => (f.body, f.results.toList, f.ntmps)) = some (some b82, [.tmp 2], 20) := by kernel_rfl
noncomputable abbrev a82 (P n c : Nat) : List Value := [PU P n c]
noncomputable def z82 (x : MX) (P n c : Nat) : St := { smSt 1 [some (.fam x.F)] [] with tmps := a82 P n c ++ List.replicate (20 - (a82 P n c).length) undef, defers := [] }
noncomputable def tm82 (v : VF) (P n c : Nat) (i : Nat) : List Value := (PU P n c :: v 1 :: v 2 :: .int .i64 (nI (i + 1)) :: vs v 4 16 [])
theorem tm82_dead {v : VF} {P n c : Nat} {i : Nat} {B : Nat → Bool} (h : ∀ i, DeadV (v i)) (hB : ∀ i, (Nat.beq i 0 || Nat.beq i 3) = true → B i = true) : deadT B 0 (tm82 v P n c i) :=
  ⟨fun e => absurd e (by rw [hB 0 rfl]; decide), ⟨fun _ => h 1, ⟨fun _ => h 2, ⟨fun e => absurd e (by rw [hB 3 rfl]; decide), deadT_vs h 16 (trivial)⟩⟩⟩⟩
noncomputable def h82 (x : MX) (P n c : Nat) : Nat → Option Ob := fun i => match i with
  | 0 => some (.fam x.F)
  | _ => none
theorem h82_ok (x : MX) (P n c : Nat) : Go.Cln.RowsIn (h82 x P n c) := by
  intro b n' w' g' t h
  unfold h82 at h
  split at h <;> first | (cases h; done) | cases h
noncomputable def s82 (x : MX) (P n c : Nat) (i : Nat) (v : VF) : St := ⟨tm82 v P n c i, [], Tr.rebuild (h82 x P n c) 1, 1, 1, [], fun _ => false, True, []⟩
noncomputable def go82 (K : Given) (c : Code) (s : St) (o : List (Option Bool)) : Option (Exit × St) := (mk Tryz.prog K 200).code 82 none c { s with obl := True, orc := o }
noncomputable def gd82 (K : Given) (s : St) (o : List (Option Bool)) : Option (St × Code) := down (mk Tryz.prog K 200) 82 none [2, 3, 2, 0] b82 { s with obl := True, orc := o }
def WD82 (i : Nat) : Bool := Nat.beq i 2
noncomputable def VD82 (v : VF) : VF := fun i => match WD82 i with
  | true => junk
  | false => v i
def BD82 (i : Nat) : Bool := (Nat.beq i 0 || Nat.beq i 3) || WD82 i
theorem VD82_dead {v : VF} (h : ∀ i, DeadV (v i)) (i : Nat) : DeadV (VD82 v i) := by
  unfold VD82
  split
  · exact DeadV.junk
  · exact h i
theorem lvD82 (i : Nat) (h : (Nat.beq i 0 || Nat.beq i 3) = true) : BD82 i = true := by
  unfold BD82
  simp only [Bool.or_eq_true] at h ⊢
  exact .inl h
def WR82 (i : Nat) : Bool := (Nat.ble 4 i && Nat.ble i 19)
noncomputable def VR82 (v : VF) : VF := fun i => match WR82 i with
  | true => junk
  | false => v i
def BR82 (i : Nat) : Bool := (Nat.beq i 0 || Nat.beq i 3) || WR82 i
theorem VR82_dead {v : VF} (h : ∀ i, DeadV (v i)) (i : Nat) : DeadV (VR82 v i) := by
  unfold VR82
  split
  · exact DeadV.junk
  · exact h i
theorem lvR82 (i : Nat) (h : (Nat.beq i 0 || Nat.beq i 3) = true) : BR82 i = true := by
  unfold BR82
  simp only [Bool.or_eq_true] at h ⊢
  exact .inl h
def WX82 (i : Nat) : Bool := (Nat.ble 4 i && Nat.ble i 7)
noncomputable def VX82 (v : VF) : VF := fun i => match WX82 i with
  | true => junk
  | false => v i
def BX82 (i : Nat) : Bool := (Nat.beq i 0 || Nat.beq i 3) || WX82 i
theorem VX82_dead {v : VF} (h : ∀ i, DeadV (v i)) (i : Nat) : DeadV (VX82 v i) := by
  unfold VX82
  split
  · exact DeadV.junk
  · exact h i
theorem lvX82 (i : Nat) (h : (Nat.beq i 0 || Nat.beq i 3) = true) : BX82 i = true := by
  unfold BX82
  simp only [Bool.or_eq_true] at h ⊢
  exact .inl h
def pD_82 (x : MX) (P n c : Nat) (i : Nat) : Prop := True
def pR_82 (x : MX) (P n c : Nat) (i : Nat) : Prop := ((((((((True ∧ decide (nI (i + 1) < nI n) = true) ∧ IntKind.i64.wrap (nI (i + 1) - 1) = nI (i + 1) - 1) ∧ 0 ≤ nI (i + 1) - 1 ∧ nI (i + 1) - 1 < nI n) ∧ 0 + (nI (i + 1) - 1).toNat * 1 < (x.U P).length) ∧ 0 ≤ nI (i + 1) ∧ nI (i + 1) < nI n) ∧ 0 + (i + 1) * 1 < (x.U P).length) ∧ decide ((x.U P).getD (0 + (nI (i + 1) - 1).toNat * 1) 0 ≥ (x.U P).getD (0 + (i + 1) * 1) 0) = false) ∧ IntKind.i64.wrap (nI (i + 1) + 1) = nI (i + 1) + 1)
def pX_82 (x : MX) (P n c : Nat) (i : Nat) : Prop := (True ∧ decide (nI (i + 1) < nI n) = false)
def pF0_82 (x : MX) (P n c : Nat) (i : Nat) : Prop := (((((((True ∧ decide (nI (i + 1) < nI n) = true) ∧ IntKind.i64.wrap (nI (i + 1) - 1) = nI (i + 1) - 1) ∧ 0 ≤ nI (i + 1) - 1 ∧ nI (i + 1) - 1 < nI n) ∧ 0 + (nI (i + 1) - 1).toNat * 1 < (x.U P).length) ∧ 0 ≤ nI (i + 1) ∧ nI (i + 1) < nI n) ∧ 0 + (i + 1) * 1 < (x.U P).length) ∧ decide ((x.U P).getD (0 + (nI (i + 1) - 1).toNat * 1) 0 ≥ (x.U P).getD (0 + (i + 1) * 1) 0) = true)
def pE0_82 (x : MX) (P n c : Nat) (i : Nat) : Prop := True
theorem kD82 (x : MX) (P n c : Nat) : (gd82 KN (z82 x P n c) []).map (fun r => (r.2, r.1.obl, seenInT BD82 r.1 (s82 x P n c 0 (VD82 vU)) [0])) = some (.loop l82, pD_82 x P n c 0, seenAsT BD82 (s82 x P n c 0 (VD82 vU)) [0] 1) := by kernel_rfl
theorem kR82 (x : MX) (P n c : Nat) (i : Nat) (v : VF) : (go82 KN l82 (s82 x P n c i v) [some true, some true, some true, some true, some true, some true, some false, some true]).map (fun r => (r.1, r.2.obl, seenInT BR82 r.2 (s82 x P n c (i + 1) (VR82 v)) [0])) = some (.normal, pR_82 x P n c i, seenAsT BR82 (s82 x P n c (i + 1) (VR82 v)) [0] 1) := by kernel_rfl
theorem kX82 (x : MX) (P n c : Nat) (i : Nat) (v : VF) : (go82 KN l82 (s82 x P n c i v) [some false]).map (fun r => (r.1, r.2.obl, seenInT BX82 r.2 (s82 x P n c i (VX82 v)) [0])) = some (.exit 0, pX_82 x P n c i, seenAsT BX82 (s82 x P n c i (VX82 v)) [0] 1) := by kernel_rfl
theorem kF0_82 (x : MX) (P n c : Nat) (i : Nat) (v : VF) : (go82 KN l82 (s82 x P n c i v) [some true, some true, some true, some true, some true, some true, some true]).bind (fun r => (results1 Tryz.prog r.2 [.tmp 2]).map fun q => (r.1, q.2.obl, r.2.defers, oneOf q.1)) = some (.ret, pF0_82 x P n c i, [], .bool false) := by kernel_rfl
theorem kE0_82 (x : MX) (P n c : Nat) (i : Nat) (v : VF) : (go82 KN e82 (s82 x P n c i v) []).bind (fun r => (results1 Tryz.prog r.2 [.tmp 2]).map fun q => (r.1, q.2.obl, r.2.defers, oneOf q.1)) = some (.ret, pE0_82 x P n c i, [], .bool true) := by kernel_rfl
theorem okD82 (x : MX) (P n c : Nat) (i : Nat) (v : VF) : picOkT BD82 (z82 x P n c) (s82 x P n c i (VD82 v)) [0] = true := by kernel_rfl
theorem okR82 (x : MX) (P n c : Nat) (i : Nat) (v : VF) : picOkT BR82 (z82 x P n c) (s82 x P n c i (VR82 v)) [0] = true := by kernel_rfl
theorem okX82 (x : MX) (P n c : Nat) (i : Nat) (v : VF) : picOkT BX82 (z82 x P n c) (s82 x P n c i (VX82 v)) [0] = true := by kernel_rfl
theorem up82 (x : MX) (P n c : Nat) (Q_ : Exit → St → Prop) : upQ Tryz.prog none (z82 x P n c) [2, 3, 2, 0] b82 Q_ = fun e s => (fun e s => (e = .normal ∧ StepG Tryz.prog none (z82 x P n c) e82 s Q_) ∨ (e ≠ .normal ∧ Q_ e s)) (blockOut 0 e) s := by kernel_rfl
theorem rd82 {x : MX} {P n c : Nat} (hP : numOk x P n) : Rd Tryz.prog x.F 82 (a82 P n c) (.bool (riseE x P n)) := by
  obtain ⟨p1, p2⟩ := hP
  unfold riseE
  refine find_rd (way := [2, 3, 2, 0]) (pic := fun i v => s82 x P n c i v) (e := upE x P) (N := (n - 1)) (v0 := VD82 vU) (s0 := z82 x P n c) rfl fn82 rfl (fun Q_ h => StepG.downs pg KN_ok (kD82 x P n c) (trivial) (tm82_dead (VD82_dead vU_dead) lvD82) (h82_ok x P n c) rfl (okD82 x P n c 0 vU) h) (up82 x P n c) (fun i v hv hi he => ?_) (fun i v hv hi hp he => ?_) (fun v hv => ?_) (fun hall v hv => ?_) (VD82_dead vU_dead)
  · refine (StepG.stdT (s0 := z82 x P n c) (rd := none) pg KN_ok (kR82 x P n c i v) ?_ (show 1 ≤ 1 by decide) (tm82_dead (VR82_dead hv) lvR82) (h82_ok x P n c) rfl (okR82 x P n c (i + 1) v)).mono ?_
    · exact ⟨⟨⟨⟨⟨⟨⟨⟨trivial, decide_eq_true (by unfold nI; omega)⟩, by rw [IntKind.wrap_i64]; unfold nI; omega⟩, by unfold nI; omega⟩, by unfold nI; omega⟩, by unfold nI; omega⟩, by omega⟩, by unfold upE at he; simpa using he⟩, by rw [IntKind.wrap_i64]; unfold nI; omega⟩
    · rintro ex s_ ⟨rfl, rfl⟩
      exact ⟨rfl, _, VR82_dead hv, rfl⟩
  · rw [allB_no he hi]
    exact StepG.ranV (s0 := z82 x P n c) (rd := none) pg KN_ok (kF0_82 x P n c i v) ⟨⟨⟨⟨⟨⟨⟨trivial, decide_eq_true (by unfold nI; omega)⟩, by rw [IntKind.wrap_i64]; unfold nI; omega⟩, by unfold nI; omega⟩, by unfold nI; omega⟩, by unfold nI; omega⟩, by omega⟩, by unfold upE at he; simpa using he⟩ (show 1 ≤ 1 by decide)
  · refine (StepG.stdT (s0 := z82 x P n c) (rd := none) pg KN_ok (kX82 x P n c (n - 1) v) ⟨trivial, decide_eq_false (by unfold nI; omega)⟩ (show 1 ≤ 1 by decide) (tm82_dead (VX82_dead hv) lvX82) (h82_ok x P n c) rfl (okX82 x P n c (n - 1) v)).mono ?_
    rintro ex s_ ⟨rfl, rfl⟩
    exact ⟨rfl, _, VX82_dead hv, rfl⟩
  · rw [allB_all hall]
    exact StepG.ranV (s0 := z82 x P n c) (rd := none) pg KN_ok (kE0_82 x P n c (n - 1) v) trivial (show 1 ≤ 1 by decide)
def b46 : Code := ((Tryz.prog.funcs[46]?).bind (·.body)).getD .skip
def l46 : Code := loopB Tryz.prog 46 0
def e46 : Code := dropC 2 b46
theorem fn46 : (Tryz.prog.funcs[46]?).map (fun f => (f.body, f.results.toList, f.ntmps)) = some (some b46, [.tmp 2], 20) := by kernel_rfl
noncomputable abbrev a46 (P n c : Nat) : List Value := [PU P n c]
noncomputable def z46 (x : MX) (P n c : Nat) : St := { smSt 1 [some (.fam x.F)] [] with tmps := a46 P n c ++ List.replicate (20 - (a46 P n c).length) undef, defers := [] }
noncomputable def tm46 (v : VF) (P n c : Nat) (i : Nat) : List Value := (PU P n c :: v 1 :: v 2 :: .int .i64 (nI (i + 1)) :: vs v 4 16 [])
theorem tm46_dead {v : VF} {P n c : Nat} {i : Nat} {B : Nat → Bool} (h : ∀ i, DeadV (v i)) (hB : ∀ i, (Nat.beq i 0 || Nat.beq i 3) = true → B i = true) : deadT B 0 (tm46 v P n c i) :=
  ⟨fun e => absurd e (by rw [hB 0 rfl]; decide), ⟨fun _ => h 1, ⟨fun _ => h 2, ⟨fun e => absurd e (by rw [hB 3 rfl]; decide), deadT_vs h 16 (trivial)⟩⟩⟩⟩
noncomputable def h46 (x : MX) (P n c : Nat) : Nat → Option Ob := fun i => match i with
  | 0 => some (.fam x.F)
  | _ => none
theorem h46_ok (x : MX) (P n c : Nat) : Go.Cln.RowsIn (h46 x P n c) := by
  intro b n' w' g' t h
  unfold h46 at h
  split at h <;> first | (cases h; done) | cases h
noncomputable def s46 (x : MX) (P n c : Nat) (i : Nat) (v : VF) : St := ⟨tm46 v P n c i, [], Tr.rebuild (h46 x P n c) 1, 1, 1, [], fun _ => false, True, []⟩
noncomputable def go46 (K : Given) (c : Code) (s : St) (o : List (Option Bool)) : Option (Exit × St) := (mk Tryz.prog K 200).code 46 none c { s with obl := True, orc := o }
noncomputable def gd46 (K : Given) (s : St) (o : List (Option Bool)) : Option (St × Code) := down (mk Tryz.prog K 200) 46 none [2, 3, 2, 0] b46 { s with obl := True, orc := o }
def WD46 (i : Nat) : Bool := Nat.beq i 2
noncomputable def VD46 (v : VF) : VF := fun i => match WD46 i with
  | true => junk
  | false => v i
def BD46 (i : Nat) : Bool := (Nat.beq i 0 || Nat.beq i 3) || WD46 i
theorem VD46_dead {v : VF} (h : ∀ i, DeadV (v i)) (i : Nat) : DeadV (VD46 v i) := by
  unfold VD46
  split
  · exact DeadV.junk
  · exact h i
theorem lvD46 (i : Nat) (h : (Nat.beq i 0 || Nat.beq i 3) = true) : BD46 i = true := by
  unfold BD46
  simp only [Bool.or_eq_true] at h ⊢
  exact .inl h
def WR46 (i : Nat) : Bool := (Nat.ble 4 i && Nat.ble i 19)
noncomputable def VR46 (v : VF) : VF := fun i => match WR46 i with
  | true => junk
  | false => v i
def BR46 (i : Nat) : Bool := (Nat.beq i 0 || Nat.beq i 3) || WR46 i
theorem VR46_dead {v : VF} (h : ∀ i, DeadV (v i)) (i : Nat) : DeadV (VR46 v i) := by
  unfold VR46
  split
  · exact DeadV.junk
  · exact h i
theorem lvR46 (i : Nat) (h : (Nat.beq i 0 || Nat.beq i 3) = true) : BR46 i = true := by
  unfold BR46
  simp only [Bool.or_eq_true] at h ⊢
  exact .inl h
def WX46 (i : Nat) : Bool := (Nat.ble 4 i && Nat.ble i 7)
noncomputable def VX46 (v : VF) : VF := fun i => match WX46 i with
  | true => junk
  | false => v i
def BX46 (i : Nat) : Bool := (Nat.beq i 0 || Nat.beq i 3) || WX46 i
theorem VX46_dead {v : VF} (h : ∀ i, DeadV (v i)) (i : Nat) : DeadV (VX46 v i) := by
  unfold VX46
  split
  · exact DeadV.junk
  · exact h i
theorem lvX46 (i : Nat) (h : (Nat.beq i 0 || Nat.beq i 3) = true) : BX46 i = true := by
  unfold BX46
  simp only [Bool.or_eq_true] at h ⊢
  exact .inl h
def pD_46 (x : MX) (P n c : Nat) (i : Nat) : Prop := True
def pR_46 (x : MX) (P n c : Nat) (i : Nat) : Prop := ((((((((True ∧ decide (nI (i + 1) < nI n) = true) ∧ IntKind.i64.wrap (nI (i + 1) - 1) = nI (i + 1) - 1) ∧ 0 ≤ nI (i + 1) - 1 ∧ nI (i + 1) - 1 < nI n) ∧ 0 + (nI (i + 1) - 1).toNat * 1 < (x.U P).length) ∧ 0 ≤ nI (i + 1) ∧ nI (i + 1) < nI n) ∧ 0 + (i + 1) * 1 < (x.U P).length) ∧ decide ((x.U P).getD (0 + (nI (i + 1) - 1).toNat * 1) 0 ≥ (x.U P).getD (0 + (i + 1) * 1) 0) = false) ∧ IntKind.i64.wrap (nI (i + 1) + 1) = nI (i + 1) + 1)
def pX_46 (x : MX) (P n c : Nat) (i : Nat) : Prop := (True ∧ decide (nI (i + 1) < nI n) = false)
def pF0_46 (x : MX) (P n c : Nat) (i : Nat) : Prop := (((((((True ∧ decide (nI (i + 1) < nI n) = true) ∧ IntKind.i64.wrap (nI (i + 1) - 1) = nI (i + 1) - 1) ∧ 0 ≤ nI (i + 1) - 1 ∧ nI (i + 1) - 1 < nI n) ∧ 0 + (nI (i + 1) - 1).toNat * 1 < (x.U P).length) ∧ 0 ≤ nI (i + 1) ∧ nI (i + 1) < nI n) ∧ 0 + (i + 1) * 1 < (x.U P).length) ∧ decide ((x.U P).getD (0 + (nI (i + 1) - 1).toNat * 1) 0 ≥ (x.U P).getD (0 + (i + 1) * 1) 0) = true)
def pE0_46 (x : MX) (P n c : Nat) (i : Nat) : Prop := True
theorem kD46 (x : MX) (P n c : Nat) : (gd46 KN (z46 x P n c) []).map (fun r => (r.2, r.1.obl, seenInT BD46 r.1 (s46 x P n c 0 (VD46 vU)) [0])) = some (.loop l46, pD_46 x P n c 0, seenAsT BD46 (s46 x P n c 0 (VD46 vU)) [0] 1) := by kernel_rfl
theorem kR46 (x : MX) (P n c : Nat) (i : Nat) (v : VF) : (go46 KN l46 (s46 x P n c i v) [some true, some true, some true, some true, some true, some true, some false, some true]).map (fun r => (r.1, r.2.obl, seenInT BR46 r.2 (s46 x P n c (i + 1) (VR46 v)) [0])) = some (.normal, pR_46 x P n c i, seenAsT BR46 (s46 x P n c (i + 1) (VR46 v)) [0] 1) := by kernel_rfl
theorem kX46 (x : MX) (P n c : Nat) (i : Nat) (v : VF) : (go46 KN l46 (s46 x P n c i v) [some false]).map (fun r => (r.1, r.2.obl, seenInT BX46 r.2 (s46 x P n c i (VX46 v)) [0])) = some (.exit 0, pX_46 x P n c i, seenAsT BX46 (s46 x P n c i (VX46 v)) [0] 1) := by kernel_rfl
theorem kF0_46 (x : MX) (P n c : Nat) (i : Nat) (v : VF) : (go46 KN l46 (s46 x P n c i v) [some true, some true, some true, some true, some true, some true, some true]).bind (fun r => (results1 Tryz.prog r.2 [.tmp 2]).map fun q => (r.1, q.2.obl, r.2.defers, oneOf q.1)) = some (.ret, pF0_46 x P n c i, [], .bool false) := by kernel_rfl
theorem kE0_46 (x : MX) (P n c : Nat) (i : Nat) (v : VF) : (go46 KN e46 (s46 x P n c i v) []).bind (fun r => (results1 Tryz.prog r.2 [.tmp 2]).map fun q => (r.1, q.2.obl, r.2.defers, oneOf q.1)) = some (.ret, pE0_46 x P n c i, [], .bool true) := by kernel_rfl
theorem okD46 (x : MX) (P n c : Nat) (i : Nat) (v : VF) : picOkT BD46 (z46 x P n c) (s46 x P n c i (VD46 v)) [0] = true := by kernel_rfl
theorem okR46 (x : MX) (P n c : Nat) (i : Nat) (v : VF) : picOkT BR46 (z46 x P n c) (s46 x P n c i (VR46 v)) [0] = true := by kernel_rfl
theorem okX46 (x : MX) (P n c : Nat) (i : Nat) (v : VF) : picOkT BX46 (z46 x P n c) (s46 x P n c i (VX46 v)) [0] = true := by kernel_rfl
theorem up46 (x : MX) (P n c : Nat) (Q_ : Exit → St → Prop) : upQ Tryz.prog none (z46 x P n c) [2, 3, 2, 0] b46 Q_ = fun e s => (fun e s => (e = .normal ∧ StepG Tryz.prog none (z46 x P n c) e46 s Q_) ∨ (e ≠ .normal ∧ Q_ e s)) (blockOut 0 e) s := by kernel_rfl
theorem rd46 {x : MX} {P n c : Nat} (hP : numOk x P n) : Rd Tryz.prog x.F 46 (a46 P n c) (.bool (riseE x P n)) := by
  obtain ⟨p1, p2⟩ := hP
  unfold riseE
  refine find_rd (way := [2, 3, 2, 0]) (pic := fun i v => s46 x P n c i v) (e := upE x P) (N := (n - 1)) (v0 := VD46 vU) (s0 := z46 x P n c) rfl fn46 rfl (fun Q_ h => StepG.downs pg KN_ok (kD46 x P n c) (trivial) (tm46_dead (VD46_dead vU_dead) lvD46) (h46_ok x P n c) rfl (okD46 x P n c 0 vU) h) (up46 x P n c) (fun i v hv hi he => ?_) (fun i v hv hi hp he => ?_) (fun v hv => ?_) (fun hall v hv => ?_) (VD46_dead vU_dead)
  · refine (StepG.stdT (s0 := z46 x P n c) (rd := none) pg KN_ok (kR46 x P n c i v) ?_ (show 1 ≤ 1 by decide) (tm46_dead (VR46_dead hv) lvR46) (h46_ok x P n c) rfl (okR46 x P n c (i + 1) v)).mono ?_
    · exact ⟨⟨⟨⟨⟨⟨⟨⟨trivial, decide_eq_true (by unfold nI; omega)⟩, by rw [IntKind.wrap_i64]; unfold nI; omega⟩, by unfold nI; omega⟩, by unfold nI; omega⟩, by unfold nI; omega⟩, by omega⟩, by unfold upE at he; simpa using he⟩, by rw [IntKind.wrap_i64]; unfold nI; omega⟩
    · rintro ex s_ ⟨rfl, rfl⟩
      exact ⟨rfl, _, VR46_dead hv, rfl⟩
  · rw [allB_no he hi]
    exact StepG.ranV (s0 := z46 x P n c) (rd := none) pg KN_ok (kF0_46 x P n c i v) ⟨⟨⟨⟨⟨⟨⟨trivial, decide_eq_true (by unfold nI; omega)⟩, by rw [IntKind.wrap_i64]; unfold nI; omega⟩, by unfold nI; omega⟩, by unfold nI; omega⟩, by unfold nI; omega⟩, by omega⟩, by unfold upE at he; simpa using he⟩ (show 1 ≤ 1 by decide)
  · refine (StepG.stdT (s0 := z46 x P n c) (rd := none) pg KN_ok (kX46 x P n c (n - 1) v) ⟨trivial, decide_eq_false (by unfold nI; omega)⟩ (show 1 ≤ 1 by decide) (tm46_dead (VX46_dead hv) lvX46) (h46_ok x P n c) rfl (okX46 x P n c (n - 1) v)).mono ?_
    rintro ex s_ ⟨rfl, rfl⟩
    exact ⟨rfl, _, VX46_dead hv, rfl⟩
  · rw [allB_all hall]
    exact StepG.ranV (s0 := z46 x P n c) (rd := none) pg KN_ok (kE0_46 x P n c (n - 1) v) trivial (show 1 ≤ 1 by decide)
def b75 : Code := ((Tryz.prog.funcs[75]?).bind (·.body)).getD .skip
def l75 : Code := loopB Tryz.prog 75 0
def e75 : Code := dropC 2 b75
theorem fn75 : (Tryz.prog.funcs[75]?).map (fun f => (f.body, f.results.toList, f.ntmps)) = some (some b75, [.tmp 4], 19) := by kernel_rfl
noncomputable abbrev a75 (P n c : Nat) (w : Int) : List Value := [PU P n c, .int .u32 w]
noncomputable def z75 (x : MX) (P n c : Nat) (w : Int) : St := { smSt 1 [some (.fam x.F)] [] with tmps := a75 P n c w ++ List.replicate (19 - (a75 P n c w).length) undef, defers := [] }
noncomputable def tm75 (v : VF) (P n c : Nat) (w : Int) (i : Nat) : List Value := (PU P n c :: .int .u32 w :: vs v 2 5 (.int .i64 (nI n) :: .int .i64 (nI i) :: vs v 9 10 []))
theorem tm75_dead {v : VF} {P n c : Nat} {w : Int} {i : Nat} {B : Nat → Bool} (h : ∀ i, DeadV (v i)) (hB : ∀ i, ((Nat.ble 0 i && Nat.ble i 1) || (Nat.ble 7 i && Nat.ble i 8)) = true → B i = true) : deadT B 0 (tm75 v P n c w i) :=
  ⟨fun e => absurd e (by rw [hB 0 rfl]; decide), ⟨fun e => absurd e (by rw [hB 1 rfl]; decide), deadT_vs h 5 (⟨fun e => absurd e (by rw [hB 7 rfl]; decide), ⟨fun e => absurd e (by rw [hB 8 rfl]; decide), deadT_vs h 10 (trivial)⟩⟩)⟩⟩
noncomputable def h75 (x : MX) (P n c : Nat) (w : Int) : Nat → Option Ob := fun i => match i with
  | 0 => some (.fam x.F)
  | _ => none
theorem h75_ok (x : MX) (P n c : Nat) (w : Int) : Go.Cln.RowsIn (h75 x P n c w) := by
  intro b n' w' g' t h
  unfold h75 at h
  split at h <;> first | (cases h; done) | cases h
noncomputable def s75 (x : MX) (P n c : Nat) (w : Int) (i : Nat) (v : VF) : St := ⟨tm75 v P n c w i, [], Tr.rebuild (h75 x P n c w) 1, 1, 1, [], fun _ => false, True, []⟩
noncomputable def go75 (K : Given) (c : Code) (s : St) (o : List (Option Bool)) : Option (Exit × St) := (mk Tryz.prog K 200).code 75 none c { s with obl := True, orc := o }
noncomputable def gd75 (K : Given) (s : St) (o : List (Option Bool)) : Option (St × Code) := down (mk Tryz.prog K 200) 75 none [2, 3, 2, 0] b75 { s with obl := True, orc := o }
def WD75 (i : Nat) : Bool := Nat.beq i 4 || Nat.beq i 6
noncomputable def VD75 (v : VF) : VF := fun i => match WD75 i with
  | true => junk
  | false => v i
def BD75 (i : Nat) : Bool := ((Nat.ble 0 i && Nat.ble i 1) || (Nat.ble 7 i && Nat.ble i 8)) || WD75 i
theorem VD75_dead {v : VF} (h : ∀ i, DeadV (v i)) (i : Nat) : DeadV (VD75 v i) := by
  unfold VD75
  split
  · exact DeadV.junk
  · exact h i
theorem lvD75 (i : Nat) (h : ((Nat.ble 0 i && Nat.ble i 1) || (Nat.ble 7 i && Nat.ble i 8)) = true) : BD75 i = true := by
  unfold BD75
  simp only [Bool.or_eq_true] at h ⊢
  exact .inl h
def WR75 (i : Nat) : Bool := Nat.beq i 5 || (Nat.ble 9 i && Nat.ble i 16) || Nat.beq i 18
noncomputable def VR75 (v : VF) : VF := fun i => match WR75 i with
  | true => junk
  | false => v i
def BR75 (i : Nat) : Bool := ((Nat.ble 0 i && Nat.ble i 1) || (Nat.ble 7 i && Nat.ble i 8)) || WR75 i
theorem VR75_dead {v : VF} (h : ∀ i, DeadV (v i)) (i : Nat) : DeadV (VR75 v i) := by
  unfold VR75
  split
  · exact DeadV.junk
  · exact h i
theorem lvR75 (i : Nat) (h : ((Nat.ble 0 i && Nat.ble i 1) || (Nat.ble 7 i && Nat.ble i 8)) = true) : BR75 i = true := by
  unfold BR75
  simp only [Bool.or_eq_true] at h ⊢
  exact .inl h
def WX75 (i : Nat) : Bool := Nat.beq i 9
noncomputable def VX75 (v : VF) : VF := fun i => match WX75 i with
  | true => junk
  | false => v i
def BX75 (i : Nat) : Bool := ((Nat.ble 0 i && Nat.ble i 1) || (Nat.ble 7 i && Nat.ble i 8)) || WX75 i
theorem VX75_dead {v : VF} (h : ∀ i, DeadV (v i)) (i : Nat) : DeadV (VX75 v i) := by
  unfold VX75
  split
  · exact DeadV.junk
  · exact h i
theorem lvX75 (i : Nat) (h : ((Nat.ble 0 i && Nat.ble i 1) || (Nat.ble 7 i && Nat.ble i 8)) = true) : BX75 i = true := by
  unfold BX75
  simp only [Bool.or_eq_true] at h ⊢
  exact .inl h
def pD_75 (x : MX) (P n c : Nat) (w : Int) (i : Nat) : Prop := True
def pR_75 (x : MX) (P n c : Nat) (w : Int) (i : Nat) : Prop := (((((True ∧ decide (nI i < nI n) = true) ∧ 0 ≤ nI i ∧ nI i < nI n) ∧ 0 + i * 1 < (x.U P).length) ∧ (w == (x.U P).getD (0 + i * 1) 0) = false) ∧ IntKind.i64.wrap (nI i + 1) = nI i + 1)
def pX_75 (x : MX) (P n c : Nat) (w : Int) (i : Nat) : Prop := (True ∧ decide (nI i < nI n) = false)
def pF0_75 (x : MX) (P n c : Nat) (w : Int) (i : Nat) : Prop := ((((True ∧ decide (nI i < nI n) = true) ∧ 0 ≤ nI i ∧ nI i < nI n) ∧ 0 + i * 1 < (x.U P).length) ∧ (w == (x.U P).getD (0 + i * 1) 0) = true)
def pE0_75 (x : MX) (P n c : Nat) (w : Int) (i : Nat) : Prop := True
theorem kD75 (x : MX) (P n c : Nat) (w : Int) : (gd75 KN (z75 x P n c w) []).map (fun r => (r.2, r.1.obl, seenInT BD75 r.1 (s75 x P n c w 0 (VD75 vU)) [0])) = some (.loop l75, pD_75 x P n c w 0, seenAsT BD75 (s75 x P n c w 0 (VD75 vU)) [0] 1) := by kernel_rfl
theorem kR75 (x : MX) (P n c : Nat) (w : Int) (i : Nat) (v : VF) : (go75 KN l75 (s75 x P n c w i v) [some true, some true, some true, some false, some true]).map (fun r => (r.1, r.2.obl, seenInT BR75 r.2 (s75 x P n c w (i + 1) (VR75 v)) [0])) = some (.normal, pR_75 x P n c w i, seenAsT BR75 (s75 x P n c w (i + 1) (VR75 v)) [0] 1) := by kernel_rfl
theorem kX75 (x : MX) (P n c : Nat) (w : Int) (i : Nat) (v : VF) : (go75 KN l75 (s75 x P n c w i v) [some false]).map (fun r => (r.1, r.2.obl, seenInT BX75 r.2 (s75 x P n c w i (VX75 v)) [0])) = some (.exit 0, pX_75 x P n c w i, seenAsT BX75 (s75 x P n c w i (VX75 v)) [0] 1) := by kernel_rfl
theorem kF0_75 (x : MX) (P n c : Nat) (w : Int) (i : Nat) (v : VF) : (go75 KN l75 (s75 x P n c w i v) [some true, some true, some true, some true]).bind (fun r => (results1 Tryz.prog r.2 [.tmp 4]).map fun q => (r.1, q.2.obl, r.2.defers, oneOf q.1)) = some (.ret, pF0_75 x P n c w i, [], .int .i64 (nI i)) := by kernel_rfl
theorem kE0_75 (x : MX) (P n c : Nat) (w : Int) (i : Nat) (v : VF) : (go75 KN e75 (s75 x P n c w i v) []).bind (fun r => (results1 Tryz.prog r.2 [.tmp 4]).map fun q => (r.1, q.2.obl, r.2.defers, oneOf q.1)) = some (.ret, pE0_75 x P n c w i, [], .int .i64 (-1)) := by kernel_rfl
theorem okD75 (x : MX) (P n c : Nat) (w : Int) (i : Nat) (v : VF) : picOkT BD75 (z75 x P n c w) (s75 x P n c w i (VD75 v)) [0] = true := by kernel_rfl
theorem okR75 (x : MX) (P n c : Nat) (w : Int) (i : Nat) (v : VF) : picOkT BR75 (z75 x P n c w) (s75 x P n c w i (VR75 v)) [0] = true := by kernel_rfl
theorem okX75 (x : MX) (P n c : Nat) (w : Int) (i : Nat) (v : VF) : picOkT BX75 (z75 x P n c w) (s75 x P n c w i (VX75 v)) [0] = true := by kernel_rfl
theorem up75 (x : MX) (P n c : Nat) (w : Int) (Q_ : Exit → St → Prop) : upQ Tryz.prog none (z75 x P n c w) [2, 3, 2, 0] b75 Q_ = fun e s => (fun e s => (e = .normal ∧ StepG Tryz.prog none (z75 x P n c w) e75 s Q_) ∨ (e ≠ .normal ∧ Q_ e s)) (blockOut 0 e) s := by kernel_rfl
theorem rd75 {x : MX} {P n c : Nat} {w : Int} (hP : numOk x P n) : Rd Tryz.prog x.F 75 (a75 P n c w) (.int .i64 (whereI (isntE x P w) n)) := by
  obtain ⟨p1, p2⟩ := hP
  refine find_rd (way := [2, 3, 2, 0]) (pic := fun i v => s75 x P n c w i v) (e := isntE x P w) (N := n) (v0 := VD75 vU) (s0 := z75 x P n c w) rfl fn75 rfl (fun Q_ h => StepG.downs pg KN_ok (kD75 x P n c w) (trivial) (tm75_dead (VD75_dead vU_dead) lvD75) (h75_ok x P n c w) rfl (okD75 x P n c w 0 vU) h) (up75 x P n c w) (fun i v hv hi he => ?_) (fun i v hv hi hp he => ?_) (fun v hv => ?_) (fun hall v hv => ?_) (VD75_dead vU_dead)
  · refine (StepG.stdT (s0 := z75 x P n c w) (rd := none) pg KN_ok (kR75 x P n c w i v) ?_ (show 1 ≤ 1 by decide) (tm75_dead (VR75_dead hv) lvR75) (h75_ok x P n c w) rfl (okR75 x P n c w (i + 1) v)).mono ?_
    · exact ⟨⟨⟨⟨⟨trivial, decide_eq_true (by unfold nI; omega)⟩, by unfold nI; omega⟩, by omega⟩, by unfold isntE at he; simpa using he⟩, by rw [IntKind.wrap_i64]; unfold nI; omega⟩
    · rintro ex s_ ⟨rfl, rfl⟩
      exact ⟨rfl, _, VR75_dead hv, rfl⟩
  · rw [whereI_at hi hp he]
    exact StepG.ranV (s0 := z75 x P n c w) (rd := none) pg KN_ok (kF0_75 x P n c w i v) ⟨⟨⟨⟨trivial, decide_eq_true (by unfold nI; omega)⟩, by unfold nI; omega⟩, by omega⟩, by unfold isntE at he; simpa using he⟩ (show 1 ≤ 1 by decide)
  · refine (StepG.stdT (s0 := z75 x P n c w) (rd := none) pg KN_ok (kX75 x P n c w n v) ⟨trivial, decide_eq_false (by unfold nI; omega)⟩ (show 1 ≤ 1 by decide) (tm75_dead (VX75_dead hv) lvX75) (h75_ok x P n c w) rfl (okX75 x P n c w n v)).mono ?_
    rintro ex s_ ⟨rfl, rfl⟩
    exact ⟨rfl, _, VX75_dead hv, rfl⟩
  · rw [whereI_all hall]
    exact StepG.ranV (s0 := z75 x P n c w) (rd := none) pg KN_ok (kE0_75 x P n c w n v) trivial (show 1 ≤ 1 by decide)
noncomputable def rw82 (x : MX) (args : List Value) : Option (Value × Prop) := match args with
  | [.slice (some ⟨P, 0, some 1001⟩) n c] => some (.bool (riseE x P n), numOk x P n)
  | _ => none
theorem rw82_ok (x : MX) {args : List Value} {r : Value × Prop} (h : rw82 x args = some r) : flat r.1 = true ∧ args.all farV = true ∧ (r.2 → Rd Tryz.prog x.F 82 args r.1) := by
  unfold rw82 at h
  split at h
  · rename_i P n c
    cases h
    exact ⟨rfl, rfl, fun hp => rd82 hp⟩
  · cases h
noncomputable def rw46 (x : MX) (args : List Value) : Option (Value × Prop) := match args with
  | [.slice (some ⟨P, 0, some 1001⟩) n c] => some (.bool (riseE x P n), numOk x P n)
  | _ => none
theorem rw46_ok (x : MX) {args : List Value} {r : Value × Prop} (h : rw46 x args = some r) : flat r.1 = true ∧ args.all farV = true ∧ (r.2 → Rd Tryz.prog x.F 46 args r.1) := by
  unfold rw46 at h
  split at h
  · rename_i P n c
    cases h
    exact ⟨rfl, rfl, fun hp => rd46 hp⟩
  · cases h
noncomputable def rw75 (x : MX) (args : List Value) : Option (Value × Prop) := match args with
  | [.slice (some ⟨P, 0, some 1001⟩) n c, .int .u32 w] => some (.int .i64 (whereI (isntE x P w) n), numOk x P n)
  | _ => none
theorem rw75_ok (x : MX) {args : List Value} {r : Value × Prop} (h : rw75 x args = some r) : flat r.1 = true ∧ args.all farV = true ∧ (r.2 → Rd Tryz.prog x.F 75 args r.1) := by
  unfold rw75 at h
  split at h
  · rename_i P n c w
    cases h
    exact ⟨rfl, rfl, fun hp => rd75 hp⟩
  · cases h
noncomputable def TU (x : MX) (f : FuncId) (args : List Value) : Option (Value × Prop) := if f == 82 then rw82 x args else if f == 46 then rw46 x args else if f == 75 then rw75 x args else TC x f args
theorem TU_ok (x : MX) (f : FuncId) (args : List Value) (r : Value × Prop) (h : TU x f args = some r) : flat r.1 = true ∧ args.all farV = true ∧ (r.2 → Rd Tryz.prog x.F f args r.1) := by
  unfold TU at h
  by_cases e82 : (f == 82) = true
  · have hf : f = 82 := by simpa using e82
    subst hf
    exact rw82_ok x h
  rw [if_neg e82] at h
  by_cases e46 : (f == 46) = true
  · have hf : f = 46 := by simpa using e46
    subst hf
    exact rw46_ok x h
  rw [if_neg e46] at h
  by_cases e75 : (f == 75) = true
  · have hf : f = 75 := by simpa using e75
    subst hf
    exact rw75_ok x h
  rw [if_neg e75] at h
  exact TC_ok x f args r h
noncomputable def KU (x : MX) : Given := { Given.rds Given.nothing x.F (TU x) with fits := true }
theorem KU_ok (x : MX) : GivenOk Tryz.prog (KU x) := frames_fits ((GivenOk.nothing _).rds (TU_ok x)) true
theorem k41 (x : MX) (P n c : Nat) (w : Int) : ((mk Tryz.prog (KU x) 200).call 41 [PU P n c, .int .u32 w] (smSt 1 [some (.fam x.F)] [])).map (fun r => (r.1, r.2.obl)) = some (.bool (decide (whereI (isntE x P w) n ≥ 0)), (True ∧ (x.F = x.F ∧ numOk x P n))) := by kernel_rfl
theorem rd41 {x : MX} {P n c : Nat} {w : Int} (hP : numOk x P n) : Rd Tryz.prog x.F 41 [PU P n c, .int .u32 w] (.bool (hasE x P n w)) := by
  unfold hasE
  rw [← whereI_ge]
  exact Rd.run pg (KU_ok x) (k41 x P n c w) ⟨trivial, rfl, hP⟩ rfl
noncomputable def rw41 (x : MX) (args : List Value) : Option (Value × Prop) := match args with
  | [.slice (some ⟨P, 0, some 1001⟩) n c, .int .u32 w] => some (.bool (hasE x P n w), numOk x P n)
  | _ => none
theorem rw41_ok (x : MX) {args : List Value} {r : Value × Prop} (h : rw41 x args = some r) : flat r.1 = true ∧ args.all farV = true ∧ (r.2 → Rd Tryz.prog x.F 41 args r.1) := by
  unfold rw41 at h
  split at h
  · rename_i P n c w
    cases h
    exact ⟨rfl, rfl, fun hp => rd41 hp⟩
  · cases h
noncomputable def TV (x : MX) (f : FuncId) (args : List Value) : Option (Value × Prop) := if f == 41 then rw41 x args else TU x f args
theorem TV_ok (x : MX) (f : FuncId) (args : List Value) (r : Value × Prop) (h : TV x f args = some r) : flat r.1 = true ∧ args.all farV = true ∧ (r.2 → Rd Tryz.prog x.F f args r.1) := by
  unfold TV at h
  by_cases e41 : (f == 41) = true
  · have hf : f = 41 := by simpa using e41
    subst hf
    exact rw41_ok x h
  rw [if_neg e41] at h
  exact TU_ok x f args r h
noncomputable def KV (x : MX) : Given := { Given.rds Given.nothing x.F (TV x) with fits := true }
theorem KV_ok (x : MX) : GivenOk Tryz.prog (KV x) := frames_fits ((GivenOk.nothing _).rds (TV_ok x)) true
end
end ob
end Go.Proofs.YthpoeegoankpoaaGreat
namespace Go.Proofs.YthpoeegoankpoaaGreat
open Go.ChangeShapes Go.WideShapes Go.ChangeAt Go.RowKit Go.Cln
namespace ob
set_option linter.unusedVariables false
noncomputable section
noncomputable def rightLegE (x : MX) (s : Bool) (P n : Nat) : Bool := decide (nI n ≥ 1) && decide (nI n ≤ 32) && (!hasE x P n 0) && ((!s) || riseE x P n)
noncomputable def legE (x : MX) (P i : Nat) : Bool := rightLegE x (x.LS P (ix2 i)) (x.LQ P (ix2 i)) (x.LM P (ix2 i))
noncomputable def pathE (x : MX) (P n : Nat) : Bool := decide (nI n ≤ 8) && allB (legE x P) n
theorem k81_0 (x : MX) (s : Bool) (P n c : Nat) : ((mk Tryz.prog (KV x) 200).call 81 [.agg #[.bool s, PU P n c]] (smSt 1 [some (.fam x.F)] [some true, none, none, none, none, some true, none, none, none, none, some true, none, none, none, some true, none, none, none, none, none])).map (fun r => (r.1, r.2.obl)) = some (Value.bool true, (((((True ∧ (decide (nI n ≥ 1)) = true) ∧ (decide (nI n ≤ 32)) = true) ∧ (x.F = x.F ∧ (numOk x P n))) ∧ (!hasE x P n 0) = true) ∧ (!s) = true)) := by kernel_rfl
theorem k81_1 (x : MX) (s : Bool) (P n c : Nat) : ((mk Tryz.prog (KV x) 200).call 81 [.agg #[.bool s, PU P n c]] (smSt 1 [some (.fam x.F)] [some false, none, none, none, none, none, none, none, none, none, none, none, none, none, none, none])).map (fun r => (r.1, r.2.obl)) = some (Value.bool false, (True ∧ (decide (nI n ≥ 1)) = false)) := by kernel_rfl
theorem k81_2 (x : MX) (s : Bool) (P n c : Nat) : ((mk Tryz.prog (KV x) 200).call 81 [.agg #[.bool s, PU P n c]] (smSt 1 [some (.fam x.F)] [some true, none, none, none, none, some false, none, none, none, none, none, none, none, none, none, none])).map (fun r => (r.1, r.2.obl)) = some (Value.bool false, ((True ∧ (decide (nI n ≥ 1)) = true) ∧ (decide (nI n ≤ 32)) = false)) := by kernel_rfl
theorem k81_3 (x : MX) (s : Bool) (P n c : Nat) : ((mk Tryz.prog (KV x) 200).call 81 [.agg #[.bool s, PU P n c]] (smSt 1 [some (.fam x.F)] [some true, none, none, none, none, some true, none, none, none, none, some false, none, none, none, none, none])).map (fun r => (r.1, r.2.obl)) = some (Value.bool false, ((((True ∧ (decide (nI n ≥ 1)) = true) ∧ (decide (nI n ≤ 32)) = true) ∧ (x.F = x.F ∧ (numOk x P n))) ∧ (!hasE x P n 0) = false)) := by kernel_rfl
theorem k81_4 (x : MX) (s : Bool) (P n c : Nat) : ((mk Tryz.prog (KV x) 200).call 81 [.agg #[.bool s, PU P n c]] (smSt 1 [some (.fam x.F)] [some true, none, none, none, none, some true, none, none, none, none, some true, none, none, none, some false, none, none, none, none, none])).map (fun r => (r.1, r.2.obl)) = some (Value.bool (riseE x P n), ((((((True ∧ (decide (nI n ≥ 1)) = true) ∧ (decide (nI n ≤ 32)) = true) ∧ (x.F = x.F ∧ (numOk x P n))) ∧ (!hasE x P n 0) = true) ∧ (!s) = false) ∧ (x.F = x.F ∧ (numOk x P n)))) := by kernel_rfl
theorem rd81 {x : MX} {s : Bool} {P n c : Nat} (hP : numOk x P n) : Rd Tryz.prog x.F 81 [.agg #[.bool s, PU P n c]] (.bool (rightLegE x s P n)) := by
  rcases Bool.eq_false_or_eq_true (decide (nI n ≥ 1)) with h0 | h0
  · skip
    rcases Bool.eq_false_or_eq_true (decide (nI n ≤ 32)) with h1 | h1
    · skip
      rcases Bool.eq_false_or_eq_true (!hasE x P n 0) with h2 | h2
      · skip
        rcases Bool.eq_false_or_eq_true (!s) with h3 | h3
        · skip
          rw [show (.bool (rightLegE x s P n) : Value) = Value.bool true from by simp only [rightLegE, h0, h1, h2, h3, Bool.true_and, Bool.and_true, Bool.false_and, Bool.and_false, Bool.true_or, Bool.false_or, Bool.or_true, Bool.or_false, Bool.not_true, Bool.not_false]]
          exact Rd.run pg (KV_ok x) (k81_0 x s P n c) ⟨⟨⟨⟨⟨trivial, h0⟩, h1⟩, ⟨rfl, by exact hP⟩⟩, h2⟩, h3⟩ rfl
        · skip
          rw [show (.bool (rightLegE x s P n) : Value) = Value.bool (riseE x P n) from by simp only [rightLegE, h0, h1, h2, h3, Bool.true_and, Bool.and_true, Bool.false_and, Bool.and_false, Bool.true_or, Bool.false_or, Bool.or_true, Bool.or_false, Bool.not_true, Bool.not_false]]
          exact Rd.run pg (KV_ok x) (k81_4 x s P n c) ⟨⟨⟨⟨⟨⟨trivial, h0⟩, h1⟩, ⟨rfl, by exact hP⟩⟩, h2⟩, h3⟩, ⟨rfl, by exact hP⟩⟩ rfl
      · skip
        rw [show (.bool (rightLegE x s P n) : Value) = Value.bool false from by simp only [rightLegE, h0, h1, h2, Bool.true_and, Bool.and_true, Bool.false_and, Bool.and_false, Bool.true_or, Bool.false_or, Bool.or_true, Bool.or_false, Bool.not_true, Bool.not_false]]
        exact Rd.run pg (KV_ok x) (k81_3 x s P n c) ⟨⟨⟨⟨trivial, h0⟩, h1⟩, ⟨rfl, by exact hP⟩⟩, h2⟩ rfl
    · skip
      rw [show (.bool (rightLegE x s P n) : Value) = Value.bool false from by simp only [rightLegE, h0, h1, Bool.true_and, Bool.and_true, Bool.false_and, Bool.and_false, Bool.true_or, Bool.false_or, Bool.or_true, Bool.or_false, Bool.not_true, Bool.not_false]]
      exact Rd.run pg (KV_ok x) (k81_2 x s P n c) ⟨⟨trivial, h0⟩, h1⟩ rfl
  · skip
    rw [show (.bool (rightLegE x s P n) : Value) = Value.bool false from by simp only [rightLegE, h0, Bool.true_and, Bool.and_true, Bool.false_and, Bool.and_false, Bool.true_or, Bool.false_or, Bool.or_true, Bool.or_false, Bool.not_true, Bool.not_false]]
    exact Rd.run pg (KV_ok x) (k81_1 x s P n c) ⟨trivial, h0⟩ rfl
noncomputable def rw81 (x : MX) (args : List Value) : Option (Value × Prop) := match args with
  | [.agg z0] => (legOf z0).bind fun u => some (.bool (rightLegE x u.1 u.2.1 u.2.2.1), numOk x u.2.1 u.2.2.1)
  | _ => none
theorem rw81_ok (x : MX) {args : List Value} {r : Value × Prop} (h : rw81 x args = some r) : flat r.1 = true ∧ args.all farV = true ∧ (r.2 → Rd Tryz.prog x.F 81 args r.1) := by
  unfold rw81 at h
  split at h
  · rename_i z0
    rw [Option.bind_eq_some_iff] at h
    obtain ⟨u, hu, h⟩ := h
    cases h
    rw [legOf_eq hu]
    exact ⟨rfl, rfl, fun hp => rd81 hp⟩
  · cases h
noncomputable def TL1 (x : MX) (f : FuncId) (args : List Value) : Option (Value × Prop) := if f == 81 then rw81 x args else TV x f args
theorem TL1_ok (x : MX) (f : FuncId) (args : List Value) (r : Value × Prop) (h : TL1 x f args = some r) : flat r.1 = true ∧ args.all farV = true ∧ (r.2 → Rd Tryz.prog x.F f args r.1) := by
  unfold TL1 at h
  by_cases e81 : (f == 81) = true
  · have hf : f = 81 := by simpa using e81
    subst hf
    exact rw81_ok x h
  rw [if_neg e81] at h
  exact TV_ok x f args r h
noncomputable def KL1 (x : MX) : Given := { Given.rds Given.nothing x.F (TL1 x) with fits := true }
theorem KL1_ok (x : MX) : GivenOk Tryz.prog (KL1 x) := frames_fits ((GivenOk.nothing _).rds (TL1_ok x)) true
theorem k80 (x : MX) (s : Bool) (P n c : Nat) : ((mk Tryz.prog (KL1 x) 200).call 80 [.agg #[.bool s, PU P n c]] (smSt 1 [some (.fam x.F)] [])).map (fun r => (r.1, r.2.obl)) = some (.bool (!rightLegE x s P n), (True ∧ (x.F = x.F ∧ numOk x P n))) := by kernel_rfl
theorem rd80 {x : MX} {s : Bool} {P n c : Nat} (hP : numOk x P n) : Rd Tryz.prog x.F 80 [.agg #[.bool s, PU P n c]] (.bool (!rightLegE x s P n)) := Rd.run pg (KL1_ok x) (k80 x s P n c) ⟨trivial, rfl, hP⟩ rfl
noncomputable def rw80 (x : MX) (args : List Value) : Option (Value × Prop) := match args with
  | [.agg z0] => (legOf z0).bind fun u => some (.bool (!rightLegE x u.1 u.2.1 u.2.2.1), numOk x u.2.1 u.2.2.1)
  | _ => none
theorem rw80_ok (x : MX) {args : List Value} {r : Value × Prop} (h : rw80 x args = some r) : flat r.1 = true ∧ args.all farV = true ∧ (r.2 → Rd Tryz.prog x.F 80 args r.1) := by
  unfold rw80 at h
  split at h
  · rename_i z0
    rw [Option.bind_eq_some_iff] at h
    obtain ⟨u, hu, h⟩ := h
    cases h
    rw [legOf_eq hu]
    exact ⟨rfl, rfl, fun hp => rd80 hp⟩
  · cases h
noncomputable def TL2 (x : MX) (f : FuncId) (args : List Value) : Option (Value × Prop) := if f == 80 then rw80 x args else TL1 x f args
theorem TL2_ok (x : MX) (f : FuncId) (args : List Value) (r : Value × Prop) (h : TL2 x f args = some r) : flat r.1 = true ∧ args.all farV = true ∧ (r.2 → Rd Tryz.prog x.F f args r.1) := by
  unfold TL2 at h
  by_cases e80 : (f == 80) = true
  · have hf : f = 80 := by simpa using e80
    subst hf
    exact rw80_ok x h
  rw [if_neg e80] at h
  exact TL1_ok x f args r h
noncomputable def KL2 (x : MX) : Given := { Given.rds Given.nothing x.F (TL2 x) with fits := true }
theorem KL2_ok (x : MX) : GivenOk Tryz.prog (KL2 x) := frames_fits ((GivenOk.nothing _).rds (TL2_ok x)) true
def b99 : Code := ((Tryz.prog.funcs[99]?).bind (·.body)).getD .skip
def l99 : Code := loopB Tryz.prog 99 0
def e99 : Code := dropC 2 b99
theorem fn99 : (Tryz.prog.funcs[99]?).map (fun f => (f.body, f.results.toList, f.ntmps)) = some (some b99, [.tmp 4], 19) := by kernel_rfl
noncomputable abbrev a99 (P n c : Nat) : List Value := [PLg P n c, .func (.func 80) #[] #[]]
noncomputable def z99 (x : MX) (P n c : Nat) : St := { smSt 1 [some (.fam x.F)] [] with tmps := a99 P n c ++ List.replicate (19 - (a99 P n c).length) undef, defers := [] }
noncomputable def tm99 (v : VF) (P n c : Nat) (i : Nat) : List Value := (PLg P n c :: .func (.func 80) #[] #[] :: vs v 2 5 (.int .i64 (nI n) :: .int .i64 (nI i) :: vs v 9 10 []))
theorem tm99_dead {v : VF} {P n c : Nat} {i : Nat} {B : Nat → Bool} (h : ∀ i, DeadV (v i)) (hB : ∀ i, ((Nat.ble 0 i && Nat.ble i 1) || (Nat.ble 7 i && Nat.ble i 8)) = true → B i = true) : deadT B 0 (tm99 v P n c i) :=
  ⟨fun e => absurd e (by rw [hB 0 rfl]; decide), ⟨fun e => absurd e (by rw [hB 1 rfl]; decide), deadT_vs h 5 (⟨fun e => absurd e (by rw [hB 7 rfl]; decide), ⟨fun e => absurd e (by rw [hB 8 rfl]; decide), deadT_vs h 10 (trivial)⟩⟩)⟩⟩
noncomputable def h99 (x : MX) (P n c : Nat) : Nat → Option Ob := fun i => match i with
  | 0 => some (.fam x.F)
  | _ => none
theorem h99_ok (x : MX) (P n c : Nat) : Go.Cln.RowsIn (h99 x P n c) := by
  intro b n' w' g' t h
  unfold h99 at h
  split at h <;> first | (cases h; done) | cases h
noncomputable def s99 (x : MX) (P n c : Nat) (i : Nat) (v : VF) : St := ⟨tm99 v P n c i, [], Tr.rebuild (h99 x P n c) 1, 1, 1, [], fun _ => false, True, []⟩
noncomputable def go99 (K : Given) (c : Code) (s : St) (o : List (Option Bool)) : Option (Exit × St) := (mk Tryz.prog K 200).code 99 none c { s with obl := True, orc := o }
noncomputable def gd99 (K : Given) (s : St) (o : List (Option Bool)) : Option (St × Code) := down (mk Tryz.prog K 200) 99 none [2, 3, 2, 0] b99 { s with obl := True, orc := o }
def WD99 (i : Nat) : Bool := Nat.beq i 4 || Nat.beq i 6
noncomputable def VD99 (v : VF) : VF := fun i => match WD99 i with
  | true => junk
  | false => v i
def BD99 (i : Nat) : Bool := ((Nat.ble 0 i && Nat.ble i 1) || (Nat.ble 7 i && Nat.ble i 8)) || WD99 i
theorem VD99_dead {v : VF} (h : ∀ i, DeadV (v i)) (i : Nat) : DeadV (VD99 v i) := by
  unfold VD99
  split
  · exact DeadV.junk
  · exact h i
theorem lvD99 (i : Nat) (h : ((Nat.ble 0 i && Nat.ble i 1) || (Nat.ble 7 i && Nat.ble i 8)) = true) : BD99 i = true := by
  unfold BD99
  simp only [Bool.or_eq_true] at h ⊢
  exact .inl h
def WR99 (i : Nat) : Bool := Nat.beq i 5 || (Nat.ble 9 i && Nat.ble i 14) || Nat.beq i 16 || Nat.beq i 18
noncomputable def VR99 (v : VF) : VF := fun i => match Nat.beq i 15 with
  | true => .agg #[junk, junk]
  | false => match WR99 i with
  | true => junk
  | false => v i
def BR99 (i : Nat) : Bool := ((Nat.ble 0 i && Nat.ble i 1) || (Nat.ble 7 i && Nat.ble i 8)) || WR99 i || Nat.beq i 15
theorem VR99_dead {v : VF} (h : ∀ i, DeadV (v i)) (i : Nat) : DeadV (VR99 v i) := by
  unfold VR99
  split
  · exact ⟨rfl, fun _ => rfl, fun _ => rfl⟩
  split
  · exact DeadV.junk
  · exact h i
theorem lvR99 (i : Nat) (h : ((Nat.ble 0 i && Nat.ble i 1) || (Nat.ble 7 i && Nat.ble i 8)) = true) : BR99 i = true := by
  unfold BR99
  simp only [Bool.or_eq_true] at h ⊢
  refine .inl ?_
  exact .inl h
def WX99 (i : Nat) : Bool := Nat.beq i 9
noncomputable def VX99 (v : VF) : VF := fun i => match WX99 i with
  | true => junk
  | false => v i
def BX99 (i : Nat) : Bool := ((Nat.ble 0 i && Nat.ble i 1) || (Nat.ble 7 i && Nat.ble i 8)) || WX99 i
theorem VX99_dead {v : VF} (h : ∀ i, DeadV (v i)) (i : Nat) : DeadV (VX99 v i) := by
  unfold VX99
  split
  · exact DeadV.junk
  · exact h i
theorem lvX99 (i : Nat) (h : ((Nat.ble 0 i && Nat.ble i 1) || (Nat.ble 7 i && Nat.ble i 8)) = true) : BX99 i = true := by
  unfold BX99
  simp only [Bool.or_eq_true] at h ⊢
  exact .inl h
def b77 : Code := ((Tryz.prog.funcs[77]?).bind (·.body)).getD .skip
def e77 : Code := dropC 3 b77
end
end ob
end Go.Proofs.YthpoeegoankpoaaGreat
namespace Go.Proofs.YthpoeegoankpoaaGreat
open Go.ChangeShapes Go.WideShapes Go.ChangeAt Go.RowKit Go.Cln
namespace ob
set_option linter.unusedVariables false
noncomputable section
theorem Bool.beq_comm_int (a b : Int) : (a == b) = (b == a) := by rw [Bool.eq_iff_iff, beq_iff_eq, beq_iff_eq]; exact eq_comm
theorem rightLeg_e {x : MX} {s : Bool} {P n : Nat} (h0 : decide (nI n < 1) = false) (h1 : decide (nI n > 32) = false) (h2 : s = true → riseE x P n = true) : rightLegE x s P n = allB (isntE x P 0) n := by
  have h0 := of_decide_eq_false h0
  have h1 := of_decide_eq_false h1
  unfold rightLegE hasE
  rw [decide_eq_true (show nI n ≥ 1 by omega), decide_eq_true (show nI n ≤ 32 by omega)]
  cases s with
  | false => simp
  | true => rw [h2 rfl]; simp
def pD_99 (x : MX) (P n c : Nat) (i : Nat) : Prop := True
def pR_99 (x : MX) (P n c : Nat) (i : Nat) : Prop := ((((((True ∧ decide (nI i < nI n) = true) ∧ 0 ≤ nI i ∧ nI i < nI n) ∧ (0 + i * 2) % 2 = 0 ∧ (0 + i * 2) / 2 < x.LN P) ∧ x.F = x.F ∧ numOk x (x.LQ P (ix2 i)) (x.LM P (ix2 i))) ∧ (!rightLegE x (x.LS P (ix2 i)) (x.LQ P (ix2 i)) (x.LM P (ix2 i))) = false) ∧ IntKind.i64.wrap (nI i + 1) = nI i + 1)
def pX_99 (x : MX) (P n c : Nat) (i : Nat) : Prop := (True ∧ decide (nI i < nI n) = false)
def pF0_99 (x : MX) (P n c : Nat) (i : Nat) : Prop := (((((True ∧ decide (nI i < nI n) = true) ∧ 0 ≤ nI i ∧ nI i < nI n) ∧ (0 + i * 2) % 2 = 0 ∧ (0 + i * 2) / 2 < x.LN P) ∧ x.F = x.F ∧ numOk x (x.LQ P (ix2 i)) (x.LM P (ix2 i))) ∧ (!rightLegE x (x.LS P (ix2 i)) (x.LQ P (ix2 i)) (x.LM P (ix2 i))) = true)
def pE0_99 (x : MX) (P n c : Nat) (i : Nat) : Prop := True
theorem kD99 (x : MX) (P n c : Nat) : (gd99 (KL2 x) (z99 x P n c) []).map (fun r => (r.2, r.1.obl, seenInT BD99 r.1 (s99 x P n c 0 (VD99 vU)) [0])) = some (.loop l99, pD_99 x P n c 0, seenAsT BD99 (s99 x P n c 0 (VD99 vU)) [0] 1) := by kernel_rfl
theorem kR99 (x : MX) (P n c : Nat) (i : Nat) (v : VF) : (go99 (KL2 x) l99 (s99 x P n c i v) [some true, some true, some false, some true, some false, some true]).map (fun r => (r.1, r.2.obl, seenInT BR99 r.2 (s99 x P n c (i + 1) (VR99 v)) [0])) = some (.normal, pR_99 x P n c i, seenAsT BR99 (s99 x P n c (i + 1) (VR99 v)) [0] 1) := by kernel_rfl
theorem kX99 (x : MX) (P n c : Nat) (i : Nat) (v : VF) : (go99 (KL2 x) l99 (s99 x P n c i v) [some false]).map (fun r => (r.1, r.2.obl, seenInT BX99 r.2 (s99 x P n c i (VX99 v)) [0])) = some (.exit 0, pX_99 x P n c i, seenAsT BX99 (s99 x P n c i (VX99 v)) [0] 1) := by kernel_rfl
theorem kF0_99 (x : MX) (P n c : Nat) (i : Nat) (v : VF) : (go99 (KL2 x) l99 (s99 x P n c i v) [some true, some true, some false, some true, some true]).bind (fun r => (results1 Tryz.prog r.2 [.tmp 4]).map fun q => (r.1, q.2.obl, r.2.defers, oneOf q.1)) = some (.ret, pF0_99 x P n c i, [], .int .i64 (nI i)) := by kernel_rfl
theorem kE0_99 (x : MX) (P n c : Nat) (i : Nat) (v : VF) : (go99 (KL2 x) e99 (s99 x P n c i v) []).bind (fun r => (results1 Tryz.prog r.2 [.tmp 4]).map fun q => (r.1, q.2.obl, r.2.defers, oneOf q.1)) = some (.ret, pE0_99 x P n c i, [], .int .i64 (-1)) := by kernel_rfl
theorem okD99 (x : MX) (P n c : Nat) (i : Nat) (v : VF) : picOkT BD99 (z99 x P n c) (s99 x P n c i (VD99 v)) [0] = true := by kernel_rfl
theorem okR99 (x : MX) (P n c : Nat) (i : Nat) (v : VF) : picOkT BR99 (z99 x P n c) (s99 x P n c i (VR99 v)) [0] = true := by kernel_rfl
theorem okX99 (x : MX) (P n c : Nat) (i : Nat) (v : VF) : picOkT BX99 (z99 x P n c) (s99 x P n c i (VX99 v)) [0] = true := by kernel_rfl
theorem up99 (x : MX) (P n c : Nat) (Q_ : Exit → St → Prop) : upQ Tryz.prog none (z99 x P n c) [2, 3, 2, 0] b99 Q_ = fun e s => (fun e s => (e = .normal ∧ StepG Tryz.prog none (z99 x P n c) e99 s Q_) ∨ (e ≠ .normal ∧ Q_ e s)) (blockOut 0 e) s := by kernel_rfl
theorem rd99 {x : MX} {P n c : Nat} (hP : legOk x P n) : Rd Tryz.prog x.F 99 (a99 P n c) (.int .i64 (whereI (legE x P) n)) := by
  obtain ⟨p1, p2, p3⟩ := hP
  refine find_rd (way := [2, 3, 2, 0]) (pic := fun i v => s99 x P n c i v) (e := legE x P) (N := n) (v0 := VD99 vU) (s0 := z99 x P n c) rfl fn99 rfl (fun Q_ h => StepG.downs pg (KL2_ok x) (kD99 x P n c) (trivial) (tm99_dead (VD99_dead vU_dead) lvD99) (h99_ok x P n c) rfl (okD99 x P n c 0 vU) h) (up99 x P n c) (fun i v hv hi he => ?_) (fun i v hv hi hp he => ?_) (fun v hv => ?_) (fun hall v hv => ?_) (VD99_dead vU_dead)
  · refine (StepG.stdT (s0 := z99 x P n c) (rd := none) pg (KL2_ok x) (kR99 x P n c i v) ?_ (show 1 ≤ 1 by decide) (tm99_dead (VR99_dead hv) lvR99) (h99_ok x P n c) rfl (okR99 x P n c (i + 1) v)).mono ?_
    · exact ⟨⟨⟨⟨⟨⟨trivial, decide_eq_true (by unfold nI; omega)⟩, by unfold nI; omega⟩, by omega⟩, ⟨rfl, by rw [ix2_eq]; exact p3 i hi⟩⟩, by unfold legE at he; rw [he]; rfl⟩, by rw [IntKind.wrap_i64]; unfold nI; omega⟩
    · rintro ex s_ ⟨rfl, rfl⟩
      exact ⟨rfl, _, VR99_dead hv, rfl⟩
  · rw [whereI_at hi hp he]
    exact StepG.ranV (s0 := z99 x P n c) (rd := none) pg (KL2_ok x) (kF0_99 x P n c i v) ⟨⟨⟨⟨⟨trivial, decide_eq_true (by unfold nI; omega)⟩, by unfold nI; omega⟩, by omega⟩, ⟨rfl, by rw [ix2_eq]; exact p3 i hi⟩⟩, by unfold legE at he; rw [he]; rfl⟩ (show 1 ≤ 1 by decide)
  · refine (StepG.stdT (s0 := z99 x P n c) (rd := none) pg (KL2_ok x) (kX99 x P n c n v) ⟨trivial, decide_eq_false (by unfold nI; omega)⟩ (show 1 ≤ 1 by decide) (tm99_dead (VX99_dead hv) lvX99) (h99_ok x P n c) rfl (okX99 x P n c n v)).mono ?_
    rintro ex s_ ⟨rfl, rfl⟩
    exact ⟨rfl, _, VX99_dead hv, rfl⟩
  · rw [whereI_all hall]
    exact StepG.ranV (s0 := z99 x P n c) (rd := none) pg (KL2_ok x) (kE0_99 x P n c n v) trivial (show 1 ≤ 1 by decide)
def b77f : Code := ((Tryz.prog.funcs[77]?).bind (·.body)).getD .skip
def l77f : Code := loopB Tryz.prog 77 0
def e77f : Code := dropC 3 b77f
theorem fn77f : (Tryz.prog.funcs[77]?).map (fun f => (f.body, f.results.toList, f.ntmps)) = some (some b77f, [.tmp 2], 37) := by kernel_rfl
noncomputable abbrev a77f (P n c : Nat) : List Value := [.agg #[.bool false, PU P n c]]
noncomputable def z77f (x : MX) (P n c : Nat) : St := { smSt 1 [some (.fam x.F)] [] with tmps := a77f P n c ++ List.replicate (37 - (a77f P n c).length) undef, defers := [] }
noncomputable def tm77f (v : VF) (P n c : Nat) (i : Nat) : List Value := (.agg #[.bool false, PU P n c] :: .pointer (some ⟨1, 0, none⟩) :: v 2 :: .int .i64 (nI i) :: vs v 4 33 [])
theorem tm77f_dead {v : VF} {P n c : Nat} {i : Nat} {B : Nat → Bool} (h : ∀ i, DeadV (v i)) (hB : ∀ i, ((Nat.ble 0 i && Nat.ble i 1) || Nat.beq i 3) = true → B i = true) : deadT B 0 (tm77f v P n c i) :=
  ⟨fun e => absurd e (by rw [hB 0 rfl]; decide), ⟨fun e => absurd e (by rw [hB 1 rfl]; decide), ⟨fun _ => h 2, ⟨fun e => absurd e (by rw [hB 3 rfl]; decide), deadT_vs h 33 (trivial)⟩⟩⟩⟩
noncomputable def h77f (x : MX) (P n c : Nat) : Nat → Option Ob := fun i => match i with
  | 0 => some (.fam x.F)
  | 1 => some (.cells (.lit [.bool false, PU P n c]) 45)
  | _ => none
theorem h77f_ok (x : MX) (P n c : Nat) : Go.Cln.RowsIn (h77f x P n c) := by
  intro b n' w' g' t h
  unfold h77f at h
  split at h <;> first | (cases h; done) | cases h
noncomputable def s77f (x : MX) (P n c : Nat) (i : Nat) (v : VF) : St := ⟨tm77f v P n c i, [], Tr.rebuild (h77f x P n c) 2, 2, 1, [], fun _ => false, True, []⟩
noncomputable def go77f (K : Given) (c : Code) (s : St) (o : List (Option Bool)) : Option (Exit × St) := (mk Tryz.prog K 200).code 77 none c { s with obl := True, orc := o }
noncomputable def gd77f (K : Given) (s : St) (o : List (Option Bool)) : Option (St × Code) := down (mk Tryz.prog K 200) 77 none [2, 2, 3, 2, 0] b77f { s with obl := True, orc := o }
def WD77f (i : Nat) : Bool := Nat.beq i 2 || (Nat.ble 4 i && Nat.ble i 14) || (Nat.ble 14 i && Nat.ble i 17) || (Nat.ble 22 i && Nat.ble i 23)
noncomputable def VD77f (v : VF) : VF := fun i => match WD77f i with
  | true => junk
  | false => v i
def BD77f (i : Nat) : Bool := ((Nat.ble 0 i && Nat.ble i 1) || Nat.beq i 3) || WD77f i
theorem VD77f_dead {v : VF} (h : ∀ i, DeadV (v i)) (i : Nat) : DeadV (VD77f v i) := by
  unfold VD77f
  split
  · exact DeadV.junk
  · exact h i
theorem lvD77f (i : Nat) (h : ((Nat.ble 0 i && Nat.ble i 1) || Nat.beq i 3) = true) : BD77f i = true := by
  unfold BD77f
  simp only [Bool.or_eq_true] at h ⊢
  exact .inl h
def WR77f (i : Nat) : Bool := (Nat.ble 24 i && Nat.ble i 36)
noncomputable def VR77f (v : VF) : VF := fun i => match WR77f i with
  | true => junk
  | false => v i
def BR77f (i : Nat) : Bool := ((Nat.ble 0 i && Nat.ble i 1) || Nat.beq i 3) || WR77f i
theorem VR77f_dead {v : VF} (h : ∀ i, DeadV (v i)) (i : Nat) : DeadV (VR77f v i) := by
  unfold VR77f
  split
  · exact DeadV.junk
  · exact h i
theorem lvR77f (i : Nat) (h : ((Nat.ble 0 i && Nat.ble i 1) || Nat.beq i 3) = true) : BR77f i = true := by
  unfold BR77f
  simp only [Bool.or_eq_true] at h ⊢
  exact .inl h
def WX77f (i : Nat) : Bool := (Nat.ble 24 i && Nat.ble i 28)
noncomputable def VX77f (v : VF) : VF := fun i => match WX77f i with
  | true => junk
  | false => v i
def BX77f (i : Nat) : Bool := ((Nat.ble 0 i && Nat.ble i 1) || Nat.beq i 3) || WX77f i
theorem VX77f_dead {v : VF} (h : ∀ i, DeadV (v i)) (i : Nat) : DeadV (VX77f v i) := by
  unfold VX77f
  split
  · exact DeadV.junk
  · exact h i
theorem lvX77f (i : Nat) (h : ((Nat.ble 0 i && Nat.ble i 1) || Nat.beq i 3) = true) : BX77f i = true := by
  unfold BX77f
  simp only [Bool.or_eq_true] at h ⊢
  exact .inl h
def pD_77f (x : MX) (P n c : Nat) (i : Nat) : Prop := ((True ∧ (decide (nI n < 1)) = false) ∧ (decide (nI n > 32)) = false)
def pR_77f (x : MX) (P n c : Nat) (i : Nat) : Prop := (((((True ∧ decide (nI i < nI n) = true) ∧ 0 ≤ nI i ∧ nI i < nI n) ∧ 0 + i * 1 < (x.U P).length) ∧ ((x.U P).getD (0 + i * 1) 0 == 0) = false) ∧ IntKind.i64.wrap (nI i + 1) = nI i + 1)
def pX_77f (x : MX) (P n c : Nat) (i : Nat) : Prop := (True ∧ decide (nI i < nI n) = false)
def pN0_77f (x : MX) (P n c : Nat) (i : Nat) : Prop := (True ∧ (decide (nI n < 1)) = true)
def pN1_77f (x : MX) (P n c : Nat) (i : Nat) : Prop := ((True ∧ (decide (nI n < 1)) = false) ∧ (decide (nI n > 32)) = true)
def pF0_77f (x : MX) (P n c : Nat) (i : Nat) : Prop := ((((True ∧ decide (nI i < nI n) = true) ∧ 0 ≤ nI i ∧ nI i < nI n) ∧ 0 + i * 1 < (x.U P).length) ∧ ((x.U P).getD (0 + i * 1) 0 == 0) = true)
def pE0_77f (x : MX) (P n c : Nat) (i : Nat) : Prop := True
theorem kD77f (x : MX) (P n c : Nat) : (gd77f (KV x) (z77f x P n c) [some false, none, none, none, none, some false, none, none, none, none, none, none, none, none, none, none]).map (fun r => (r.2, r.1.obl, seenInT BD77f r.1 (s77f x P n c 0 (VD77f vU)) [0, 1])) = some (.loop l77f, pD_77f x P n c 0, seenAsT BD77f (s77f x P n c 0 (VD77f vU)) [0, 1] 2) := by kernel_rfl
theorem kN0_77f (x : MX) (P n c : Nat) : ((mk Tryz.prog (KV x) 200).call 77 (a77f P n c) (smSt 1 [some (.fam x.F)] [some true, none, none, none, none, none, none, none, none, none, none])).map (fun r => (r.1, r.2.obl)) = some (Value.bool false, pN0_77f x P n c 0) := by kernel_rfl
theorem kN1_77f (x : MX) (P n c : Nat) : ((mk Tryz.prog (KV x) 200).call 77 (a77f P n c) (smSt 1 [some (.fam x.F)] [some false, none, none, none, none, some true, none, none, none, none, none])).map (fun r => (r.1, r.2.obl)) = some (Value.bool false, pN1_77f x P n c 0) := by kernel_rfl
theorem kR77f (x : MX) (P n c : Nat) (i : Nat) (v : VF) : (go77f (KV x) l77f (s77f x P n c i v) [some true, some true, some true, some false, some true]).map (fun r => (r.1, r.2.obl, seenInT BR77f r.2 (s77f x P n c (i + 1) (VR77f v)) [0, 1])) = some (.normal, pR_77f x P n c i, seenAsT BR77f (s77f x P n c (i + 1) (VR77f v)) [0, 1] 2) := by kernel_rfl
theorem kX77f (x : MX) (P n c : Nat) (i : Nat) (v : VF) : (go77f (KV x) l77f (s77f x P n c i v) [some false]).map (fun r => (r.1, r.2.obl, seenInT BX77f r.2 (s77f x P n c i (VX77f v)) [0, 1])) = some (.exit 0, pX_77f x P n c i, seenAsT BX77f (s77f x P n c i (VX77f v)) [0, 1] 2) := by kernel_rfl
theorem kF0_77f (x : MX) (P n c : Nat) (i : Nat) (v : VF) : (go77f (KV x) l77f (s77f x P n c i v) [some true, some true, some true, some true]).bind (fun r => (results1 Tryz.prog r.2 [.tmp 2]).map fun q => (r.1, q.2.obl, r.2.defers, oneOf q.1)) = some (.ret, pF0_77f x P n c i, [], .bool false) := by kernel_rfl
theorem kE0_77f (x : MX) (P n c : Nat) (i : Nat) (v : VF) : (go77f (KV x) e77f (s77f x P n c i v) []).bind (fun r => (results1 Tryz.prog r.2 [.tmp 2]).map fun q => (r.1, q.2.obl, r.2.defers, oneOf q.1)) = some (.ret, pE0_77f x P n c i, [], .bool true) := by kernel_rfl
theorem okD77f (x : MX) (P n c : Nat) (i : Nat) (v : VF) : picOkT BD77f (z77f x P n c) (s77f x P n c i (VD77f v)) [0, 1] = true := by kernel_rfl
theorem okR77f (x : MX) (P n c : Nat) (i : Nat) (v : VF) : picOkT BR77f (z77f x P n c) (s77f x P n c i (VR77f v)) [0, 1] = true := by kernel_rfl
theorem okX77f (x : MX) (P n c : Nat) (i : Nat) (v : VF) : picOkT BX77f (z77f x P n c) (s77f x P n c i (VX77f v)) [0, 1] = true := by kernel_rfl
theorem up77f (x : MX) (P n c : Nat) (Q_ : Exit → St → Prop) : upQ Tryz.prog none (z77f x P n c) [2, 2, 3, 2, 0] b77f Q_ = fun e s => (fun e s => (e = .normal ∧ StepG Tryz.prog none (z77f x P n c) e77f s Q_) ∨ (e ≠ .normal ∧ Q_ e s)) (blockOut 0 e) s := by kernel_rfl
theorem rd77f {x : MX} {P n c : Nat} (hP : numOk x P n) : Rd Tryz.prog x.F 77 (a77f P n c) (.bool (rightLegE x false P n)) := by
  have hP := hP
  obtain ⟨p1, p2⟩ := id hP
  rcases Bool.eq_false_or_eq_true (decide (nI n < 1)) with e0 | e0
  · rw [show (.bool (rightLegE x false P n) : Value) = Value.bool false from by have h := of_decide_eq_true e0; unfold rightLegE; rw [decide_eq_false (show ¬ nI n ≥ 1 by omega)]; simp]
    exact Rd.run pg (KV_ok x) (kN0_77f x P n c) (⟨trivial, e0⟩) rfl
  rcases Bool.eq_false_or_eq_true (decide (nI n > 32)) with e1 | e1
  · rw [show (.bool (rightLegE x false P n) : Value) = Value.bool false from by have h := of_decide_eq_true e1; unfold rightLegE; rw [decide_eq_false (show ¬ nI n ≤ 32 by omega)]; simp]
    exact Rd.run pg (KV_ok x) (kN1_77f x P n c) (⟨⟨trivial, e0⟩, e1⟩) rfl
  rw [rightLeg_e e0 e1 (by intro h; cases h)]
  refine find_rd (way := [2, 2, 3, 2, 0]) (pic := fun i v => s77f x P n c i v) (e := isntE x P 0) (N := n) (v0 := VD77f vU) (s0 := z77f x P n c) rfl fn77f rfl (fun Q_ h => StepG.downs pg (KV_ok x) (kD77f x P n c) (⟨⟨trivial, e0⟩, e1⟩) (tm77f_dead (VD77f_dead vU_dead) lvD77f) (h77f_ok x P n c) rfl (okD77f x P n c 0 vU) h) (up77f x P n c) (fun i v hv hi he => ?_) (fun i v hv hi hp he => ?_) (fun v hv => ?_) (fun hall v hv => ?_) (VD77f_dead vU_dead)
  · refine (StepG.stdT (s0 := z77f x P n c) (rd := none) pg (KV_ok x) (kR77f x P n c i v) ?_ (show 1 ≤ 2 by decide) (tm77f_dead (VR77f_dead hv) lvR77f) (h77f_ok x P n c) rfl (okR77f x P n c (i + 1) v)).mono ?_
    · exact ⟨⟨⟨⟨⟨trivial, decide_eq_true (by unfold nI; omega)⟩, by unfold nI; omega⟩, by omega⟩, by unfold isntE at he; rw [Bool.beq_comm_int]; simpa using he⟩, by rw [IntKind.wrap_i64]; unfold nI; omega⟩
    · rintro ex s_ ⟨rfl, rfl⟩
      exact ⟨rfl, _, VR77f_dead hv, rfl⟩
  · rw [allB_no he hi]
    exact StepG.ranV (s0 := z77f x P n c) (rd := none) pg (KV_ok x) (kF0_77f x P n c i v) ⟨⟨⟨⟨trivial, decide_eq_true (by unfold nI; omega)⟩, by unfold nI; omega⟩, by omega⟩, by unfold isntE at he; rw [Bool.beq_comm_int]; simpa using he⟩ (show 1 ≤ 2 by decide)
  · refine (StepG.stdT (s0 := z77f x P n c) (rd := none) pg (KV_ok x) (kX77f x P n c n v) ⟨trivial, decide_eq_false (by unfold nI; omega)⟩ (show 1 ≤ 2 by decide) (tm77f_dead (VX77f_dead hv) lvX77f) (h77f_ok x P n c) rfl (okX77f x P n c n v)).mono ?_
    rintro ex s_ ⟨rfl, rfl⟩
    exact ⟨rfl, _, VX77f_dead hv, rfl⟩
  · rw [allB_all hall]
    exact StepG.ranV (s0 := z77f x P n c) (rd := none) pg (KV_ok x) (kE0_77f x P n c n v) trivial (show 1 ≤ 2 by decide)
def b77t : Code := ((Tryz.prog.funcs[77]?).bind (·.body)).getD .skip
def l77t : Code := loopB Tryz.prog 77 0
def e77t : Code := dropC 3 b77t
theorem fn77t : (Tryz.prog.funcs[77]?).map (fun f => (f.body, f.results.toList, f.ntmps)) = some (some b77t, [.tmp 2], 37) := by kernel_rfl
noncomputable abbrev a77t (P n c : Nat) : List Value := [.agg #[.bool true, PU P n c]]
noncomputable def z77t (x : MX) (P n c : Nat) : St := { smSt 1 [some (.fam x.F)] [] with tmps := a77t P n c ++ List.replicate (37 - (a77t P n c).length) undef, defers := [] }
noncomputable def tm77t (v : VF) (P n c : Nat) (i : Nat) : List Value := (.agg #[.bool true, PU P n c] :: .pointer (some ⟨1, 0, none⟩) :: v 2 :: .int .i64 (nI i) :: vs v 4 33 [])
theorem tm77t_dead {v : VF} {P n c : Nat} {i : Nat} {B : Nat → Bool} (h : ∀ i, DeadV (v i)) (hB : ∀ i, ((Nat.ble 0 i && Nat.ble i 1) || Nat.beq i 3) = true → B i = true) : deadT B 0 (tm77t v P n c i) :=
  ⟨fun e => absurd e (by rw [hB 0 rfl]; decide), ⟨fun e => absurd e (by rw [hB 1 rfl]; decide), ⟨fun _ => h 2, ⟨fun e => absurd e (by rw [hB 3 rfl]; decide), deadT_vs h 33 (trivial)⟩⟩⟩⟩
noncomputable def h77t (x : MX) (P n c : Nat) : Nat → Option Ob := fun i => match i with
  | 0 => some (.fam x.F)
  | 1 => some (.cells (.lit [.bool true, PU P n c]) 45)
  | _ => none
theorem h77t_ok (x : MX) (P n c : Nat) : Go.Cln.RowsIn (h77t x P n c) := by
  intro b n' w' g' t h
  unfold h77t at h
  split at h <;> first | (cases h; done) | cases h
noncomputable def s77t (x : MX) (P n c : Nat) (i : Nat) (v : VF) : St := ⟨tm77t v P n c i, [], Tr.rebuild (h77t x P n c) 2, 2, 1, [], fun _ => false, True, []⟩
noncomputable def go77t (K : Given) (c : Code) (s : St) (o : List (Option Bool)) : Option (Exit × St) := (mk Tryz.prog K 200).code 77 none c { s with obl := True, orc := o }
noncomputable def gd77t (K : Given) (s : St) (o : List (Option Bool)) : Option (St × Code) := down (mk Tryz.prog K 200) 77 none [2, 2, 3, 2, 0] b77t { s with obl := True, orc := o }
def WD77t (i : Nat) : Bool := Nat.beq i 2 || (Nat.ble 4 i && Nat.ble i 14) || (Nat.ble 14 i && Nat.ble i 23)
noncomputable def VD77t (v : VF) : VF := fun i => match WD77t i with
  | true => junk
  | false => v i
def BD77t (i : Nat) : Bool := ((Nat.ble 0 i && Nat.ble i 1) || Nat.beq i 3) || WD77t i
theorem VD77t_dead {v : VF} (h : ∀ i, DeadV (v i)) (i : Nat) : DeadV (VD77t v i) := by
  unfold VD77t
  split
  · exact DeadV.junk
  · exact h i
theorem lvD77t (i : Nat) (h : ((Nat.ble 0 i && Nat.ble i 1) || Nat.beq i 3) = true) : BD77t i = true := by
  unfold BD77t
  simp only [Bool.or_eq_true] at h ⊢
  exact .inl h
def WR77t (i : Nat) : Bool := (Nat.ble 24 i && Nat.ble i 36)
noncomputable def VR77t (v : VF) : VF := fun i => match WR77t i with
  | true => junk
  | false => v i
def BR77t (i : Nat) : Bool := ((Nat.ble 0 i && Nat.ble i 1) || Nat.beq i 3) || WR77t i
theorem VR77t_dead {v : VF} (h : ∀ i, DeadV (v i)) (i : Nat) : DeadV (VR77t v i) := by
  unfold VR77t
  split
  · exact DeadV.junk
  · exact h i
theorem lvR77t (i : Nat) (h : ((Nat.ble 0 i && Nat.ble i 1) || Nat.beq i 3) = true) : BR77t i = true := by
  unfold BR77t
  simp only [Bool.or_eq_true] at h ⊢
  exact .inl h
def WX77t (i : Nat) : Bool := (Nat.ble 24 i && Nat.ble i 28)
noncomputable def VX77t (v : VF) : VF := fun i => match WX77t i with
  | true => junk
  | false => v i
def BX77t (i : Nat) : Bool := ((Nat.ble 0 i && Nat.ble i 1) || Nat.beq i 3) || WX77t i
theorem VX77t_dead {v : VF} (h : ∀ i, DeadV (v i)) (i : Nat) : DeadV (VX77t v i) := by
  unfold VX77t
  split
  · exact DeadV.junk
  · exact h i
theorem lvX77t (i : Nat) (h : ((Nat.ble 0 i && Nat.ble i 1) || Nat.beq i 3) = true) : BX77t i = true := by
  unfold BX77t
  simp only [Bool.or_eq_true] at h ⊢
  exact .inl h
def pD_77t (x : MX) (P n c : Nat) (i : Nat) : Prop := ((((True ∧ (decide (nI n < 1)) = false) ∧ (decide (nI n > 32)) = false) ∧ x.F = x.F ∧ (numOk x P n)) ∧ (!riseE x P n) = false)
def pR_77t (x : MX) (P n c : Nat) (i : Nat) : Prop := (((((True ∧ decide (nI i < nI n) = true) ∧ 0 ≤ nI i ∧ nI i < nI n) ∧ 0 + i * 1 < (x.U P).length) ∧ ((x.U P).getD (0 + i * 1) 0 == 0) = false) ∧ IntKind.i64.wrap (nI i + 1) = nI i + 1)
def pX_77t (x : MX) (P n c : Nat) (i : Nat) : Prop := (True ∧ decide (nI i < nI n) = false)
def pN0_77t (x : MX) (P n c : Nat) (i : Nat) : Prop := (True ∧ (decide (nI n < 1)) = true)
def pN1_77t (x : MX) (P n c : Nat) (i : Nat) : Prop := ((True ∧ (decide (nI n < 1)) = false) ∧ (decide (nI n > 32)) = true)
def pN2_77t (x : MX) (P n c : Nat) (i : Nat) : Prop := ((((True ∧ (decide (nI n < 1)) = false) ∧ (decide (nI n > 32)) = false) ∧ x.F = x.F ∧ (numOk x P n)) ∧ (!riseE x P n) = true)
def pF0_77t (x : MX) (P n c : Nat) (i : Nat) : Prop := ((((True ∧ decide (nI i < nI n) = true) ∧ 0 ≤ nI i ∧ nI i < nI n) ∧ 0 + i * 1 < (x.U P).length) ∧ ((x.U P).getD (0 + i * 1) 0 == 0) = true)
def pE0_77t (x : MX) (P n c : Nat) (i : Nat) : Prop := True
theorem kD77t (x : MX) (P n c : Nat) : (gd77t (KV x) (z77t x P n c) [some false, none, none, none, none, some false, none, none, none, none, none, none, none, none, none, some false]).map (fun r => (r.2, r.1.obl, seenInT BD77t r.1 (s77t x P n c 0 (VD77t vU)) [0, 1])) = some (.loop l77t, pD_77t x P n c 0, seenAsT BD77t (s77t x P n c 0 (VD77t vU)) [0, 1] 2) := by kernel_rfl
theorem kN0_77t (x : MX) (P n c : Nat) : ((mk Tryz.prog (KV x) 200).call 77 (a77t P n c) (smSt 1 [some (.fam x.F)] [some true, none, none, none, none, none, none, none, none, none, none])).map (fun r => (r.1, r.2.obl)) = some (Value.bool false, pN0_77t x P n c 0) := by kernel_rfl
theorem kN1_77t (x : MX) (P n c : Nat) : ((mk Tryz.prog (KV x) 200).call 77 (a77t P n c) (smSt 1 [some (.fam x.F)] [some false, none, none, none, none, some true, none, none, none, none, none])).map (fun r => (r.1, r.2.obl)) = some (Value.bool false, pN1_77t x P n c 0) := by kernel_rfl
theorem kN2_77t (x : MX) (P n c : Nat) : ((mk Tryz.prog (KV x) 200).call 77 (a77t P n c) (smSt 1 [some (.fam x.F)] [some false, none, none, none, none, some false, none, none, none, none, none, none, none, none, none, some true])).map (fun r => (r.1, r.2.obl)) = some (Value.bool false, pN2_77t x P n c 0) := by kernel_rfl
theorem kR77t (x : MX) (P n c : Nat) (i : Nat) (v : VF) : (go77t (KV x) l77t (s77t x P n c i v) [some true, some true, some true, some false, some true]).map (fun r => (r.1, r.2.obl, seenInT BR77t r.2 (s77t x P n c (i + 1) (VR77t v)) [0, 1])) = some (.normal, pR_77t x P n c i, seenAsT BR77t (s77t x P n c (i + 1) (VR77t v)) [0, 1] 2) := by kernel_rfl
theorem kX77t (x : MX) (P n c : Nat) (i : Nat) (v : VF) : (go77t (KV x) l77t (s77t x P n c i v) [some false]).map (fun r => (r.1, r.2.obl, seenInT BX77t r.2 (s77t x P n c i (VX77t v)) [0, 1])) = some (.exit 0, pX_77t x P n c i, seenAsT BX77t (s77t x P n c i (VX77t v)) [0, 1] 2) := by kernel_rfl
theorem kF0_77t (x : MX) (P n c : Nat) (i : Nat) (v : VF) : (go77t (KV x) l77t (s77t x P n c i v) [some true, some true, some true, some true]).bind (fun r => (results1 Tryz.prog r.2 [.tmp 2]).map fun q => (r.1, q.2.obl, r.2.defers, oneOf q.1)) = some (.ret, pF0_77t x P n c i, [], .bool false) := by kernel_rfl
theorem kE0_77t (x : MX) (P n c : Nat) (i : Nat) (v : VF) : (go77t (KV x) e77t (s77t x P n c i v) []).bind (fun r => (results1 Tryz.prog r.2 [.tmp 2]).map fun q => (r.1, q.2.obl, r.2.defers, oneOf q.1)) = some (.ret, pE0_77t x P n c i, [], .bool true) := by kernel_rfl
theorem okD77t (x : MX) (P n c : Nat) (i : Nat) (v : VF) : picOkT BD77t (z77t x P n c) (s77t x P n c i (VD77t v)) [0, 1] = true := by kernel_rfl
theorem okR77t (x : MX) (P n c : Nat) (i : Nat) (v : VF) : picOkT BR77t (z77t x P n c) (s77t x P n c i (VR77t v)) [0, 1] = true := by kernel_rfl
theorem okX77t (x : MX) (P n c : Nat) (i : Nat) (v : VF) : picOkT BX77t (z77t x P n c) (s77t x P n c i (VX77t v)) [0, 1] = true := by kernel_rfl
theorem up77t (x : MX) (P n c : Nat) (Q_ : Exit → St → Prop) : upQ Tryz.prog none (z77t x P n c) [2, 2, 3, 2, 0] b77t Q_ = fun e s => (fun e s => (e = .normal ∧ StepG Tryz.prog none (z77t x P n c) e77t s Q_) ∨ (e ≠ .normal ∧ Q_ e s)) (blockOut 0 e) s := by kernel_rfl
theorem rd77t {x : MX} {P n c : Nat} (hP : numOk x P n) : Rd Tryz.prog x.F 77 (a77t P n c) (.bool (rightLegE x true P n)) := by
  have hP := hP
  obtain ⟨p1, p2⟩ := id hP
  rcases Bool.eq_false_or_eq_true (decide (nI n < 1)) with e0 | e0
  · rw [show (.bool (rightLegE x true P n) : Value) = Value.bool false from by have h := of_decide_eq_true e0; unfold rightLegE; rw [decide_eq_false (show ¬ nI n ≥ 1 by omega)]; simp]
    exact Rd.run pg (KV_ok x) (kN0_77t x P n c) (⟨trivial, e0⟩) rfl
  rcases Bool.eq_false_or_eq_true (decide (nI n > 32)) with e1 | e1
  · rw [show (.bool (rightLegE x true P n) : Value) = Value.bool false from by have h := of_decide_eq_true e1; unfold rightLegE; rw [decide_eq_false (show ¬ nI n ≤ 32 by omega)]; simp]
    exact Rd.run pg (KV_ok x) (kN1_77t x P n c) (⟨⟨trivial, e0⟩, e1⟩) rfl
  rcases Bool.eq_false_or_eq_true (!riseE x P n) with e2 | e2
  · rw [show (.bool (rightLegE x true P n) : Value) = Value.bool false from by unfold rightLegE; simp at e2; simp [e2]]
    exact Rd.run pg (KV_ok x) (kN2_77t x P n c) (⟨⟨⟨⟨trivial, e0⟩, e1⟩, ⟨rfl, by exact hP⟩⟩, e2⟩) rfl
  rw [rightLeg_e e0 e1 (by intro h; simpa using e2)]
  refine find_rd (way := [2, 2, 3, 2, 0]) (pic := fun i v => s77t x P n c i v) (e := isntE x P 0) (N := n) (v0 := VD77t vU) (s0 := z77t x P n c) rfl fn77t rfl (fun Q_ h => StepG.downs pg (KV_ok x) (kD77t x P n c) (⟨⟨⟨⟨trivial, e0⟩, e1⟩, ⟨rfl, by exact hP⟩⟩, e2⟩) (tm77t_dead (VD77t_dead vU_dead) lvD77t) (h77t_ok x P n c) rfl (okD77t x P n c 0 vU) h) (up77t x P n c) (fun i v hv hi he => ?_) (fun i v hv hi hp he => ?_) (fun v hv => ?_) (fun hall v hv => ?_) (VD77t_dead vU_dead)
  · refine (StepG.stdT (s0 := z77t x P n c) (rd := none) pg (KV_ok x) (kR77t x P n c i v) ?_ (show 1 ≤ 2 by decide) (tm77t_dead (VR77t_dead hv) lvR77t) (h77t_ok x P n c) rfl (okR77t x P n c (i + 1) v)).mono ?_
    · exact ⟨⟨⟨⟨⟨trivial, decide_eq_true (by unfold nI; omega)⟩, by unfold nI; omega⟩, by omega⟩, by unfold isntE at he; rw [Bool.beq_comm_int]; simpa using he⟩, by rw [IntKind.wrap_i64]; unfold nI; omega⟩
    · rintro ex s_ ⟨rfl, rfl⟩
      exact ⟨rfl, _, VR77t_dead hv, rfl⟩
  · rw [allB_no he hi]
    exact StepG.ranV (s0 := z77t x P n c) (rd := none) pg (KV_ok x) (kF0_77t x P n c i v) ⟨⟨⟨⟨trivial, decide_eq_true (by unfold nI; omega)⟩, by unfold nI; omega⟩, by omega⟩, by unfold isntE at he; rw [Bool.beq_comm_int]; simpa using he⟩ (show 1 ≤ 2 by decide)
  · refine (StepG.stdT (s0 := z77t x P n c) (rd := none) pg (KV_ok x) (kX77t x P n c n v) ⟨trivial, decide_eq_false (by unfold nI; omega)⟩ (show 1 ≤ 2 by decide) (tm77t_dead (VX77t_dead hv) lvX77t) (h77t_ok x P n c) rfl (okX77t x P n c n v)).mono ?_
    rintro ex s_ ⟨rfl, rfl⟩
    exact ⟨rfl, _, VX77t_dead hv, rfl⟩
  · rw [allB_all hall]
    exact StepG.ranV (s0 := z77t x P n c) (rd := none) pg (KV_ok x) (kE0_77t x P n c n v) trivial (show 1 ≤ 2 by decide)
theorem rd77 {x : MX} {s : Bool} {P n c : Nat} (hP : numOk x P n) : Rd Tryz.prog x.F 77 [.agg #[.bool s, PU P n c]] (.bool (rightLegE x s P n)) := by
  cases s with
  | false => exact rd77f hP
  | true => exact rd77t hP
end
end ob
end Go.Proofs.YthpoeegoankpoaaGreat
namespace Go.Proofs.YthpoeegoankpoaaGreat
open Go.ChangeShapes Go.WideShapes Go.ChangeAt Go.RowKit Go.Cln
namespace ob
set_option linter.unusedVariables false
noncomputable section
noncomputable def rw99 (x : MX) (args : List Value) : Option (Value × Prop) := match args with
  | [.slice (some ⟨P, 0, some 1002⟩) n c, .func (.func 80) ⟨[]⟩ ⟨[]⟩] => some (.int .i64 (whereI (legE x P) n), legOk x P n)
  | _ => none
theorem rw99_ok (x : MX) {args : List Value} {r : Value × Prop} (h : rw99 x args = some r) : flat r.1 = true ∧ args.all farV = true ∧ (r.2 → Rd Tryz.prog x.F 99 args r.1) := by
  unfold rw99 at h
  split at h
  · rename_i P n c
    cases h
    exact ⟨rfl, rfl, fun hp => rd99 hp⟩
  · cases h
noncomputable def rw77 (x : MX) (args : List Value) : Option (Value × Prop) := match args with
  | [.agg z0] => (legOf z0).bind fun u => some (.bool (rightLegE x u.1 u.2.1 u.2.2.1), numOk x u.2.1 u.2.2.1)
  | _ => none
theorem rw77_ok (x : MX) {args : List Value} {r : Value × Prop} (h : rw77 x args = some r) : flat r.1 = true ∧ args.all farV = true ∧ (r.2 → Rd Tryz.prog x.F 77 args r.1) := by
  unfold rw77 at h
  split at h
  · rename_i z0
    rw [Option.bind_eq_some_iff] at h
    obtain ⟨u, hu, h⟩ := h
    cases h
    rw [legOf_eq hu]
    exact ⟨rfl, rfl, fun hp => rd77 hp⟩
  · cases h
noncomputable def TP1 (x : MX) (f : FuncId) (args : List Value) : Option (Value × Prop) := if f == 99 then rw99 x args else if f == 77 then rw77 x args else TL2 x f args
theorem TP1_ok (x : MX) (f : FuncId) (args : List Value) (r : Value × Prop) (h : TP1 x f args = some r) : flat r.1 = true ∧ args.all farV = true ∧ (r.2 → Rd Tryz.prog x.F f args r.1) := by
  unfold TP1 at h
  by_cases e99 : (f == 99) = true
  · have hf : f = 99 := by simpa using e99
    subst hf
    exact rw99_ok x h
  rw [if_neg e99] at h
  by_cases e77 : (f == 77) = true
  · have hf : f = 77 := by simpa using e77
    subst hf
    exact rw77_ok x h
  rw [if_neg e77] at h
  exact TL2_ok x f args r h
noncomputable def KP1 (x : MX) : Given := { Given.rds Given.nothing x.F (TP1 x) with fits := true }
theorem KP1_ok (x : MX) : GivenOk Tryz.prog (KP1 x) := frames_fits ((GivenOk.nothing _).rds (TP1_ok x)) true
theorem k79 (x : MX) (P n c : Nat) : ((mk Tryz.prog (KP1 x) 200).call 79 [PLg P n c, .func (.func 80) #[] #[]] (smSt 1 [some (.fam x.F)] [])).map (fun r => (r.1, r.2.obl)) = some (.bool (decide (whereI (legE x P) n ≥ 0)), (True ∧ (x.F = x.F ∧ legOk x P n))) := by kernel_rfl
theorem rd79 {x : MX} {P n c : Nat} (hP : legOk x P n) : Rd Tryz.prog x.F 79 [PLg P n c, .func (.func 80) #[] #[]] (.bool (!allB (legE x P) n)) := by
  rw [← whereI_ge]
  exact Rd.run pg (KP1_ok x) (k79 x P n c) ⟨trivial, rfl, hP⟩ rfl
noncomputable def rw79 (x : MX) (args : List Value) : Option (Value × Prop) := match args with
  | [.slice (some ⟨P, 0, some 1002⟩) n c, .func (.func 80) ⟨[]⟩ ⟨[]⟩] => some (.bool (!allB (legE x P) n), legOk x P n)
  | _ => none
theorem rw79_ok (x : MX) {args : List Value} {r : Value × Prop} (h : rw79 x args = some r) : flat r.1 = true ∧ args.all farV = true ∧ (r.2 → Rd Tryz.prog x.F 79 args r.1) := by
  unfold rw79 at h
  split at h
  · rename_i P n c
    cases h
    exact ⟨rfl, rfl, fun hp => rd79 hp⟩
  · cases h
noncomputable def TP2 (x : MX) (f : FuncId) (args : List Value) : Option (Value × Prop) := if f == 79 then rw79 x args else TP1 x f args
theorem TP2_ok (x : MX) (f : FuncId) (args : List Value) (r : Value × Prop) (h : TP2 x f args = some r) : flat r.1 = true ∧ args.all farV = true ∧ (r.2 → Rd Tryz.prog x.F f args r.1) := by
  unfold TP2 at h
  by_cases e79 : (f == 79) = true
  · have hf : f = 79 := by simpa using e79
    subst hf
    exact rw79_ok x h
  rw [if_neg e79] at h
  exact TP1_ok x f args r h
noncomputable def KP2 (x : MX) : Given := { Given.rds Given.nothing x.F (TP2 x) with fits := true }
theorem KP2_ok (x : MX) : GivenOk Tryz.prog (KP2 x) := frames_fits ((GivenOk.nothing _).rds (TP2_ok x)) true
def b45 : Code := ((Tryz.prog.funcs[45]?).bind (·.body)).getD .skip
def l45 : Code := loopB Tryz.prog 45 0
def e45 : Code := dropC 3 b45
theorem fn45 : (Tryz.prog.funcs[45]?).map (fun f => (f.body, f.results.toList, f.ntmps)) = some (some b45, [.tmp 2], 19) := by kernel_rfl
noncomputable abbrev a45 (P n c : Nat) : List Value := [PLg P n c]
noncomputable def z45 (x : MX) (P n c : Nat) : St := { smSt 1 [some (.fam x.F)] [] with tmps := a45 P n c ++ List.replicate (19 - (a45 P n c).length) undef, defers := [] }
noncomputable def tm45 (v : VF) (P n c : Nat) (i : Nat) : List Value := (PLg P n c :: v 1 :: v 2 :: .int .i64 (nI i) :: vs v 4 15 [])
theorem tm45_dead {v : VF} {P n c : Nat} {i : Nat} {B : Nat → Bool} (h : ∀ i, DeadV (v i)) (hB : ∀ i, (Nat.beq i 0 || Nat.beq i 3) = true → B i = true) : deadT B 0 (tm45 v P n c i) :=
  ⟨fun e => absurd e (by rw [hB 0 rfl]; decide), ⟨fun _ => h 1, ⟨fun _ => h 2, ⟨fun e => absurd e (by rw [hB 3 rfl]; decide), deadT_vs h 15 (trivial)⟩⟩⟩⟩
noncomputable def h45 (x : MX) (P n c : Nat) : Nat → Option Ob := fun i => match i with
  | 0 => some (.fam x.F)
  | _ => none
theorem h45_ok (x : MX) (P n c : Nat) : Go.Cln.RowsIn (h45 x P n c) := by
  intro b n' w' g' t h
  unfold h45 at h
  split at h <;> first | (cases h; done) | cases h
noncomputable def s45 (x : MX) (P n c : Nat) (i : Nat) (v : VF) : St := ⟨tm45 v P n c i, [], Tr.rebuild (h45 x P n c) 1, 1, 1, [], fun _ => false, True, []⟩
noncomputable def go45 (K : Given) (c : Code) (s : St) (o : List (Option Bool)) : Option (Exit × St) := (mk Tryz.prog K 200).code 45 none c { s with obl := True, orc := o }
noncomputable def gd45 (K : Given) (s : St) (o : List (Option Bool)) : Option (St × Code) := down (mk Tryz.prog K 200) 45 none [2, 2, 3, 2, 0] b45 { s with obl := True, orc := o }
def WD45 (i : Nat) : Bool := Nat.beq i 2 || (Nat.ble 4 i && Nat.ble i 6)
noncomputable def VD45 (v : VF) : VF := fun i => match WD45 i with
  | true => junk
  | false => v i
def BD45 (i : Nat) : Bool := (Nat.beq i 0 || Nat.beq i 3) || WD45 i
theorem VD45_dead {v : VF} (h : ∀ i, DeadV (v i)) (i : Nat) : DeadV (VD45 v i) := by
  unfold VD45
  split
  · exact DeadV.junk
  · exact h i
theorem lvD45 (i : Nat) (h : (Nat.beq i 0 || Nat.beq i 3) = true) : BD45 i = true := by
  unfold BD45
  simp only [Bool.or_eq_true] at h ⊢
  exact .inl h
def WR45 (i : Nat) : Bool := (Nat.ble 7 i && Nat.ble i 15) || (Nat.ble 17 i && Nat.ble i 18)
noncomputable def VR45 (v : VF) : VF := fun i => match Nat.beq i 16 with
  | true => .agg #[junk, junk]
  | false => match WR45 i with
  | true => junk
  | false => v i
def BR45 (i : Nat) : Bool := (Nat.beq i 0 || Nat.beq i 3) || WR45 i || Nat.beq i 16
theorem VR45_dead {v : VF} (h : ∀ i, DeadV (v i)) (i : Nat) : DeadV (VR45 v i) := by
  unfold VR45
  split
  · exact ⟨rfl, fun _ => rfl, fun _ => rfl⟩
  split
  · exact DeadV.junk
  · exact h i
theorem lvR45 (i : Nat) (h : (Nat.beq i 0 || Nat.beq i 3) = true) : BR45 i = true := by
  unfold BR45
  simp only [Bool.or_eq_true] at h ⊢
  refine .inl ?_
  exact .inl h
def WX45 (i : Nat) : Bool := (Nat.ble 7 i && Nat.ble i 10)
noncomputable def VX45 (v : VF) : VF := fun i => match WX45 i with
  | true => junk
  | false => v i
def BX45 (i : Nat) : Bool := (Nat.beq i 0 || Nat.beq i 3) || WX45 i
theorem VX45_dead {v : VF} (h : ∀ i, DeadV (v i)) (i : Nat) : DeadV (VX45 v i) := by
  unfold VX45
  split
  · exact DeadV.junk
  · exact h i
theorem lvX45 (i : Nat) (h : (Nat.beq i 0 || Nat.beq i 3) = true) : BX45 i = true := by
  unfold BX45
  simp only [Bool.or_eq_true] at h ⊢
  exact .inl h
def pD_45 (x : MX) (P n c : Nat) (i : Nat) : Prop := (True ∧ decide (nI n > 8) = false)
def pR_45 (x : MX) (P n c : Nat) (i : Nat) : Prop := ((((((True ∧ decide (nI i < nI n) = true) ∧ 0 ≤ nI i ∧ nI i < nI n) ∧ (0 + i * 2) % 2 = 0 ∧ (0 + i * 2) / 2 < x.LN P) ∧ x.F = x.F ∧ numOk x (x.LQ P (ix2 i)) (x.LM P (ix2 i))) ∧ (!rightLegE x (x.LS P (ix2 i)) (x.LQ P (ix2 i)) (x.LM P (ix2 i))) = false) ∧ IntKind.i64.wrap (nI i + 1) = nI i + 1)
def pX_45 (x : MX) (P n c : Nat) (i : Nat) : Prop := (True ∧ decide (nI i < nI n) = false)
def pN0_45 (x : MX) (P n c : Nat) (i : Nat) : Prop := (True ∧ decide (nI n > 8) = true)
def pF0_45 (x : MX) (P n c : Nat) (i : Nat) : Prop := (((((True ∧ decide (nI i < nI n) = true) ∧ 0 ≤ nI i ∧ nI i < nI n) ∧ (0 + i * 2) % 2 = 0 ∧ (0 + i * 2) / 2 < x.LN P) ∧ x.F = x.F ∧ numOk x (x.LQ P (ix2 i)) (x.LM P (ix2 i))) ∧ (!rightLegE x (x.LS P (ix2 i)) (x.LQ P (ix2 i)) (x.LM P (ix2 i))) = true)
def pE0_45 (x : MX) (P n c : Nat) (i : Nat) : Prop := True
theorem kD45 (x : MX) (P n c : Nat) : (gd45 (KP1 x) (z45 x P n c) [some false]).map (fun r => (r.2, r.1.obl, seenInT BD45 r.1 (s45 x P n c 0 (VD45 vU)) [0])) = some (.loop l45, pD_45 x P n c 0, seenAsT BD45 (s45 x P n c 0 (VD45 vU)) [0] 1) := by kernel_rfl
theorem kN0_45 (x : MX) (P n c : Nat) : ((mk Tryz.prog (KP1 x) 200).call 45 (a45 P n c) (smSt 1 [some (.fam x.F)] [some true])).map (fun r => (r.1, r.2.obl)) = some (.bool false, pN0_45 x P n c 0) := by kernel_rfl
theorem kR45 (x : MX) (P n c : Nat) (i : Nat) (v : VF) : (go45 (KP1 x) l45 (s45 x P n c i v) [some true, some true, some false, some true, some false, some true]).map (fun r => (r.1, r.2.obl, seenInT BR45 r.2 (s45 x P n c (i + 1) (VR45 v)) [0])) = some (.normal, pR_45 x P n c i, seenAsT BR45 (s45 x P n c (i + 1) (VR45 v)) [0] 1) := by kernel_rfl
theorem kX45 (x : MX) (P n c : Nat) (i : Nat) (v : VF) : (go45 (KP1 x) l45 (s45 x P n c i v) [some false]).map (fun r => (r.1, r.2.obl, seenInT BX45 r.2 (s45 x P n c i (VX45 v)) [0])) = some (.exit 0, pX_45 x P n c i, seenAsT BX45 (s45 x P n c i (VX45 v)) [0] 1) := by kernel_rfl
theorem kF0_45 (x : MX) (P n c : Nat) (i : Nat) (v : VF) : (go45 (KP1 x) l45 (s45 x P n c i v) [some true, some true, some false, some true, some true]).bind (fun r => (results1 Tryz.prog r.2 [.tmp 2]).map fun q => (r.1, q.2.obl, r.2.defers, oneOf q.1)) = some (.ret, pF0_45 x P n c i, [], .bool false) := by kernel_rfl
theorem kE0_45 (x : MX) (P n c : Nat) (i : Nat) (v : VF) : (go45 (KP1 x) e45 (s45 x P n c i v) []).bind (fun r => (results1 Tryz.prog r.2 [.tmp 2]).map fun q => (r.1, q.2.obl, r.2.defers, oneOf q.1)) = some (.ret, pE0_45 x P n c i, [], .bool true) := by kernel_rfl
theorem okD45 (x : MX) (P n c : Nat) (i : Nat) (v : VF) : picOkT BD45 (z45 x P n c) (s45 x P n c i (VD45 v)) [0] = true := by kernel_rfl
theorem okR45 (x : MX) (P n c : Nat) (i : Nat) (v : VF) : picOkT BR45 (z45 x P n c) (s45 x P n c i (VR45 v)) [0] = true := by kernel_rfl
theorem okX45 (x : MX) (P n c : Nat) (i : Nat) (v : VF) : picOkT BX45 (z45 x P n c) (s45 x P n c i (VX45 v)) [0] = true := by kernel_rfl
theorem up45 (x : MX) (P n c : Nat) (Q_ : Exit → St → Prop) : upQ Tryz.prog none (z45 x P n c) [2, 2, 3, 2, 0] b45 Q_ = fun e s => (fun e s => (e = .normal ∧ StepG Tryz.prog none (z45 x P n c) e45 s Q_) ∨ (e ≠ .normal ∧ Q_ e s)) (blockOut 0 e) s := by kernel_rfl
theorem rd45 {x : MX} {P n c : Nat} (hP : legOk x P n) : Rd Tryz.prog x.F 45 (a45 P n c) (.bool (pathE x P n)) := by
  obtain ⟨p1, p2, p3⟩ := hP
  rcases Bool.eq_false_or_eq_true (decide (nI n > 8)) with e0 | e0
  · rw [show pathE x P n = false by have h := of_decide_eq_true e0; unfold pathE; rw [decide_eq_false (show ¬ nI n ≤ 8 by omega)]; rfl]
    exact Rd.run pg (KP1_ok x) (kN0_45 x P n c) ⟨trivial, e0⟩ rfl
  rw [show pathE x P n = allB (legE x P) n by have h := of_decide_eq_false e0; unfold pathE; rw [decide_eq_true (show nI n ≤ 8 by omega), Bool.true_and]]
  refine find_rd (way := [2, 2, 3, 2, 0]) (pic := fun i v => s45 x P n c i v) (e := legE x P) (N := n) (v0 := VD45 vU) (s0 := z45 x P n c) rfl fn45 rfl (fun Q_ h => StepG.downs pg (KP1_ok x) (kD45 x P n c) (⟨trivial, e0⟩) (tm45_dead (VD45_dead vU_dead) lvD45) (h45_ok x P n c) rfl (okD45 x P n c 0 vU) h) (up45 x P n c) (fun i v hv hi he => ?_) (fun i v hv hi hp he => ?_) (fun v hv => ?_) (fun hall v hv => ?_) (VD45_dead vU_dead)
  · refine (StepG.stdT (s0 := z45 x P n c) (rd := none) pg (KP1_ok x) (kR45 x P n c i v) ?_ (show 1 ≤ 1 by decide) (tm45_dead (VR45_dead hv) lvR45) (h45_ok x P n c) rfl (okR45 x P n c (i + 1) v)).mono ?_
    · exact ⟨⟨⟨⟨⟨⟨trivial, decide_eq_true (by unfold nI; omega)⟩, by unfold nI; omega⟩, by omega⟩, ⟨rfl, by rw [ix2_eq]; exact p3 i hi⟩⟩, by unfold legE at he; rw [he]; rfl⟩, by rw [IntKind.wrap_i64]; unfold nI; omega⟩
    · rintro ex s_ ⟨rfl, rfl⟩
      exact ⟨rfl, _, VR45_dead hv, rfl⟩
  · rw [allB_no he hi]
    exact StepG.ranV (s0 := z45 x P n c) (rd := none) pg (KP1_ok x) (kF0_45 x P n c i v) ⟨⟨⟨⟨⟨trivial, decide_eq_true (by unfold nI; omega)⟩, by unfold nI; omega⟩, by omega⟩, ⟨rfl, by rw [ix2_eq]; exact p3 i hi⟩⟩, by unfold legE at he; rw [he]; rfl⟩ (show 1 ≤ 1 by decide)
  · refine (StepG.stdT (s0 := z45 x P n c) (rd := none) pg (KP1_ok x) (kX45 x P n c n v) ⟨trivial, decide_eq_false (by unfold nI; omega)⟩ (show 1 ≤ 1 by decide) (tm45_dead (VX45_dead hv) lvX45) (h45_ok x P n c) rfl (okX45 x P n c n v)).mono ?_
    rintro ex s_ ⟨rfl, rfl⟩
    exact ⟨rfl, _, VX45_dead hv, rfl⟩
  · rw [allB_all hall]
    exact StepG.ranV (s0 := z45 x P n c) (rd := none) pg (KP1_ok x) (kE0_45 x P n c n v) trivial (show 1 ≤ 1 by decide)
end
end ob
end Go.Proofs.YthpoeegoankpoaaGreat
namespace Go.Proofs.YthpoeegoankpoaaGreat
open Go.ChangeShapes Go.WideShapes Go.ChangeAt Go.RowKit Go.Cln
namespace ob
set_option linter.unusedVariables false
noncomputable section
noncomputable def tagsE (x : MX) (P n : Nat) : Bool := decide (nI n ≤ 16) && riseE x P n
noncomputable def attrsE (x : MX) (a : AV) : Bool := decide (a.o ≤ 2) && pathE x a.P a.n && (!(a.nx == 0)) && (a.hm || (a.m == 0)) && (a.hp || (a.p == 0)) && tagsE x a.Q a.k
def avOk (x : MX) (a : AV) : Prop := legOk x a.P a.n ∧ numOk x a.Q a.k
theorem k50_0 (x : MX) (P n c : Nat) : ((mk Tryz.prog (KP2 x) 200).call 50 [PLg P n c] (smSt 1 [some (.fam x.F)] [some true, none, none, none])).map (fun r => (r.1, r.2.obl)) = some (Value.bool (!!allB (legE x P) n), ((True ∧ (decide (nI n ≤ 8)) = true) ∧ (x.F = x.F ∧ (legOk x P n)))) := by kernel_rfl
theorem k50_1 (x : MX) (P n c : Nat) : ((mk Tryz.prog (KP2 x) 200).call 50 [PLg P n c] (smSt 1 [some (.fam x.F)] [some false, none, none, none])).map (fun r => (r.1, r.2.obl)) = some (Value.bool false, (True ∧ (decide (nI n ≤ 8)) = false)) := by kernel_rfl
theorem rd50 {x : MX} {P n c : Nat} (hP : legOk x P n) : Rd Tryz.prog x.F 50 [PLg P n c] (.bool (pathE x P n)) := by
  rcases Bool.eq_false_or_eq_true (decide (nI n ≤ 8)) with h0 | h0
  · skip
    rw [show (.bool (pathE x P n) : Value) = Value.bool (!!allB (legE x P) n) from by simp only [pathE, Bool.not_not, h0, Bool.true_and, Bool.and_true, Bool.false_and, Bool.and_false, Bool.true_or, Bool.false_or, Bool.or_true, Bool.or_false, Bool.not_true, Bool.not_false]]
    exact Rd.run pg (KP2_ok x) (k50_0 x P n c) ⟨⟨trivial, h0⟩, ⟨rfl, by exact hP⟩⟩ rfl
  · skip
    rw [show (.bool (pathE x P n) : Value) = Value.bool false from by simp only [pathE, Bool.not_not, h0, Bool.true_and, Bool.and_true, Bool.false_and, Bool.and_false, Bool.true_or, Bool.false_or, Bool.or_true, Bool.or_false, Bool.not_true, Bool.not_false]]
    exact Rd.run pg (KP2_ok x) (k50_1 x P n c) ⟨trivial, h0⟩ rfl
theorem k51_0 (x : MX) (P n c : Nat) : ((mk Tryz.prog (KV x) 200).call 51 [PU P n c] (smSt 1 [some (.fam x.F)] [some true, none, none])).map (fun r => (r.1, r.2.obl)) = some (Value.bool (riseE x P n), ((True ∧ (decide (nI n ≤ 16)) = true) ∧ (x.F = x.F ∧ (numOk x P n)))) := by kernel_rfl
theorem k51_1 (x : MX) (P n c : Nat) : ((mk Tryz.prog (KV x) 200).call 51 [PU P n c] (smSt 1 [some (.fam x.F)] [some false, none, none])).map (fun r => (r.1, r.2.obl)) = some (Value.bool false, (True ∧ (decide (nI n ≤ 16)) = false)) := by kernel_rfl
theorem rd51 {x : MX} {P n c : Nat} (hP : numOk x P n) : Rd Tryz.prog x.F 51 [PU P n c] (.bool (tagsE x P n)) := by
  rcases Bool.eq_false_or_eq_true (decide (nI n ≤ 16)) with h0 | h0
  · skip
    rw [show (.bool (tagsE x P n) : Value) = Value.bool (riseE x P n) from by simp only [tagsE, h0, Bool.true_and, Bool.and_true, Bool.false_and, Bool.and_false, Bool.true_or, Bool.false_or, Bool.or_true, Bool.or_false, Bool.not_true, Bool.not_false]]
    exact Rd.run pg (KV_ok x) (k51_0 x P n c) ⟨⟨trivial, h0⟩, ⟨rfl, by exact hP⟩⟩ rfl
  · skip
    rw [show (.bool (tagsE x P n) : Value) = Value.bool false from by simp only [tagsE, h0, Bool.true_and, Bool.and_true, Bool.false_and, Bool.and_false, Bool.true_or, Bool.false_or, Bool.or_true, Bool.or_false, Bool.not_true, Bool.not_false]]
    exact Rd.run pg (KV_ok x) (k51_1 x P n c) ⟨trivial, h0⟩ rfl
noncomputable def rw45 (x : MX) (args : List Value) : Option (Value × Prop) := match args with
  | [.slice (some ⟨P, 0, some 1002⟩) n c] => some (.bool (pathE x P n), legOk x P n)
  | _ => none
theorem rw45_ok (x : MX) {args : List Value} {r : Value × Prop} (h : rw45 x args = some r) : flat r.1 = true ∧ args.all farV = true ∧ (r.2 → Rd Tryz.prog x.F 45 args r.1) := by
  unfold rw45 at h
  split at h
  · rename_i P n c
    cases h
    exact ⟨rfl, rfl, fun hp => rd45 hp⟩
  · cases h
noncomputable def rw50 (x : MX) (args : List Value) : Option (Value × Prop) := match args with
  | [.slice (some ⟨P, 0, some 1002⟩) n c] => some (.bool (pathE x P n), legOk x P n)
  | _ => none
theorem rw50_ok (x : MX) {args : List Value} {r : Value × Prop} (h : rw50 x args = some r) : flat r.1 = true ∧ args.all farV = true ∧ (r.2 → Rd Tryz.prog x.F 50 args r.1) := by
  unfold rw50 at h
  split at h
  · rename_i P n c
    cases h
    exact ⟨rfl, rfl, fun hp => rd50 hp⟩
  · cases h
noncomputable def rw51 (x : MX) (args : List Value) : Option (Value × Prop) := match args with
  | [.slice (some ⟨P, 0, some 1001⟩) n c] => some (.bool (tagsE x P n), numOk x P n)
  | _ => none
theorem rw51_ok (x : MX) {args : List Value} {r : Value × Prop} (h : rw51 x args = some r) : flat r.1 = true ∧ args.all farV = true ∧ (r.2 → Rd Tryz.prog x.F 51 args r.1) := by
  unfold rw51 at h
  split at h
  · rename_i P n c
    cases h
    exact ⟨rfl, rfl, fun hp => rd51 hp⟩
  · cases h
noncomputable def TQ1 (x : MX) (f : FuncId) (args : List Value) : Option (Value × Prop) := if f == 45 then rw45 x args else if f == 50 then rw50 x args else if f == 51 then rw51 x args else TP2 x f args
theorem TQ1_ok (x : MX) (f : FuncId) (args : List Value) (r : Value × Prop) (h : TQ1 x f args = some r) : flat r.1 = true ∧ args.all farV = true ∧ (r.2 → Rd Tryz.prog x.F f args r.1) := by
  unfold TQ1 at h
  by_cases e45 : (f == 45) = true
  · have hf : f = 45 := by simpa using e45
    subst hf
    exact rw45_ok x h
  rw [if_neg e45] at h
  by_cases e50 : (f == 50) = true
  · have hf : f = 50 := by simpa using e50
    subst hf
    exact rw50_ok x h
  rw [if_neg e50] at h
  by_cases e51 : (f == 51) = true
  · have hf : f = 51 := by simpa using e51
    subst hf
    exact rw51_ok x h
  rw [if_neg e51] at h
  exact TP2_ok x f args r h
noncomputable def KQ1 (x : MX) : Given := { Given.rds Given.nothing x.F (TQ1 x) with fits := true }
theorem KQ1_ok (x : MX) : GivenOk Tryz.prog (KQ1 x) := frames_fits ((GivenOk.nothing _).rds (TQ1_ok x)) true
end
end ob
end Go.Proofs.YthpoeegoankpoaaGreat
