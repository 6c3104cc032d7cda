/- Read off the code by the clean reading. -/
import Derived.Test.YthpoeegoankpoaaGreatClnMe
import Derived.Test.YthpoeegoankpoaaGreatClnQc
import Derived.Test.YthpoeegoankpoaaGreatClnQd
set_option linter.unusedVariables false
set_option linter.unusedSimpArgs false
set_option linter.deprecated false
set_option maxRecDepth 100000
namespace Go.Proofs.YthpoeegoankpoaaGreat
open Go.ChangeShapes Go.WideShapes Go.ChangeAt Go.RowKit Go.Cln
namespace ob
set_option linter.unusedVariables false
noncomputable section
noncomputable def rw7 (x : MX) (args : List Value) : Option (Value × Prop) := match args with
  | [.agg z0, .agg z1, .agg z2] => (rvOf z0).bind fun u => (pvOf z1).bind fun w => (avOf z2).bind fun z => some (.bool (fitsE x u w.1 w.2 z), rvOk u ∧ pvOk w.1 w.2 ∧ avOk x z)
  | _ => none
theorem rw7_ok (x : MX) {args : List Value} {r : Value × Prop} (h : rw7 x args = some r) : flat r.1 = true ∧ args.all farV = true ∧ (r.2 → Rd Tryz.prog x.F 7 args r.1) := by
  unfold rw7 at h
  split at h
  · rename_i z0 z1 z2
    rw [Option.bind_eq_some_iff] at h
    obtain ⟨u, hu, h⟩ := h
    rw [Option.bind_eq_some_iff] at h
    obtain ⟨w, hw, h⟩ := h
    rw [Option.bind_eq_some_iff] at h
    obtain ⟨z, hz, h⟩ := h
    cases h
    rw [rvOf_eq hu]
    rw [pvOf_eq hw]
    rw [avOf_eq hz]
    exact ⟨rfl, rfl, fun hp => rd7 hp.1 hp.2.1 hp.2.2⟩
  · cases h
noncomputable def rw8 (x : MX) (args : List Value) : Option (Value × Prop) := match args with
  | [.agg z0, .agg z1, .agg z2] => (rvOf z0).bind fun u => (pvOf z1).bind fun w => (avOf z2).bind fun z => some (.bool (fitsE x u w.1 w.2 z), rvOk u ∧ pvOk w.1 w.2 ∧ avOk x z)
  | _ => none
theorem rw8_ok (x : MX) {args : List Value} {r : Value × Prop} (h : rw8 x args = some r) : flat r.1 = true ∧ args.all farV = true ∧ (r.2 → Rd Tryz.prog x.F 8 args r.1) := by
  unfold rw8 at h
  split at h
  · rename_i z0 z1 z2
    rw [Option.bind_eq_some_iff] at h
    obtain ⟨u, hu, h⟩ := h
    rw [Option.bind_eq_some_iff] at h
    obtain ⟨w, hw, h⟩ := h
    rw [Option.bind_eq_some_iff] at h
    obtain ⟨z, hz, h⟩ := h
    cases h
    rw [rvOf_eq hu]
    rw [pvOf_eq hw]
    rw [avOf_eq hz]
    exact ⟨rfl, rfl, fun hp => rd8 hp.1 hp.2.1 hp.2.2⟩
  · cases h
noncomputable def TG (x : MX) (f : FuncId) (args : List Value) : Option (Value × Prop) := if f == 7 then rw7 x args else if f == 8 then rw8 x args else TF x f args
theorem TG_ok (x : MX) (f : FuncId) (args : List Value) (r : Value × Prop) (h : TG x f args = some r) : flat r.1 = true ∧ args.all farV = true ∧ (r.2 → Rd Tryz.prog x.F f args r.1) := by
  unfold TG at h
  by_cases e7 : (f == 7) = true
  · have hf : f = 7 := by simpa using e7
    subst hf
    exact rw7_ok x h
  rw [if_neg e7] at h
  by_cases e8 : (f == 8) = true
  · have hf : f = 8 := by simpa using e8
    subst hf
    exact rw8_ok x h
  rw [if_neg e8] at h
  exact TF_ok x f args r h
noncomputable def KG (x : MX) : Given := { Given.rds Given.nothing x.F (TG x) with fits := true }
theorem KG_ok (x : MX) : GivenOk Tryz.prog (KG x) := frames_fits ((GivenOk.nothing _).rds (TG_ok x)) true
noncomputable def notE (x : MX) (P : Nat) (a l : Int) (y : AV) (i : Nat) : Bool := !fitsE x (x.rv P (ixR i)) a l y
def b10 : Code := ((Tryz.prog.funcs[10]?).bind (·.body)).getD .skip
def l10 : Code := loopB Tryz.prog 10 0
def e10 : Code := dropC 2 b10
theorem fn10 : (Tryz.prog.funcs[10]?).map (fun f => (f.body, f.results.toList, f.ntmps)) = some (some b10, [.tmp 6], 24) := by kernel_rfl
noncomputable abbrev a10 (p : PV) (a l : Int) (y : AV) : List Value := [p.v, pv a l, y.v]
noncomputable def z10 (x : MX) (p : PV) (a l : Int) (y : AV) : St := { smSt 1 [some (.fam x.F)] [] with tmps := a10 p a l y ++ List.replicate (24 - (a10 p a l y).length) undef, defers := [] }
noncomputable def tm10 (v : VF) (p : PV) (a l : Int) (y : AV) (i : Nat) : List Value := (p.v :: pv a l :: y.v :: .pointer (some ⟨1, 0, none⟩) :: .pointer (some ⟨2, 0, none⟩) :: .pointer (some ⟨3, 0, none⟩) :: v 6 :: .int .i64 (nI i) :: vs v 8 16 [])
theorem tm10_dead {v : VF} {p : PV} {a l : Int} {y : AV} {i : Nat} {B : Nat → Bool} (h : ∀ i, DeadV (v i)) (hB : ∀ i, ((Nat.ble 0 i && Nat.ble i 5) || Nat.beq i 7) = true → B i = true) : deadT B 0 (tm10 v p a l y i) :=
  ⟨fun e => absurd e (by rw [hB 0 rfl]; decide), ⟨fun e => absurd e (by rw [hB 1 rfl]; decide), ⟨fun e => absurd e (by rw [hB 2 rfl]; decide), ⟨fun e => absurd e (by rw [hB 3 rfl]; decide), ⟨fun e => absurd e (by rw [hB 4 rfl]; decide), ⟨fun e => absurd e (by rw [hB 5 rfl]; decide), ⟨fun _ => h 6, ⟨fun e => absurd e (by rw [hB 7 rfl]; decide), deadT_vs h 16 (trivial)⟩⟩⟩⟩⟩⟩⟩⟩
noncomputable def h10 (x : MX) (p : PV) (a l : Int) (y : AV) : Nat → Option Ob := fun i => match i with
  | 0 => some (.fam x.F)
  | 1 => some (.cells (.lit p.l) 29)
  | 2 => some (.cells (.lit [.int .u32 a, .int .u8 l]) 24)
  | 3 => some (.cells (.lit y.l) 33)
  | _ => none
theorem h10_ok (x : MX) (p : PV) (a l : Int) (y : AV) : Go.Cln.RowsIn (h10 x p a l y) := by
  intro b n' w' g' t h
  unfold h10 at h
  split at h <;> first | (cases h; done) | cases h
noncomputable def s10 (x : MX) (p : PV) (a l : Int) (y : AV) (i : Nat) (v : VF) : St := ⟨tm10 v p a l y i, [], Tr.rebuild (h10 x p a l y) 4, 4, 1, [], fun _ => false, True, []⟩
noncomputable def go10 (K : Given) (c : Code) (s : St) (o : List (Option Bool)) : Option (Exit × St) := (mk Tryz.prog K 200).code 10 none c { s with obl := True, orc := o }
noncomputable def gd10 (K : Given) (s : St) (o : List (Option Bool)) : Option (St × Code) := down (mk Tryz.prog K 200) 10 none [2, 3, 2, 0] b10 { s with obl := True, orc := o }
def WD10 (i : Nat) : Bool := Nat.beq i 6
noncomputable def VD10 (v : VF) : VF := fun i => match WD10 i with
  | true => junk
  | false => v i
def BD10 (i : Nat) : Bool := ((Nat.ble 0 i && Nat.ble i 5) || Nat.beq i 7) || WD10 i
theorem VD10_dead {v : VF} (h : ∀ i, DeadV (v i)) (i : Nat) : DeadV (VD10 v i) := by
  unfold VD10
  split
  · exact DeadV.junk
  · exact h i
theorem lvD10 (i : Nat) (h : ((Nat.ble 0 i && Nat.ble i 5) || Nat.beq i 7) = true) : BD10 i = true := by
  unfold BD10
  simp only [Bool.or_eq_true] at h ⊢
  exact .inl h
def WR10 (i : Nat) : Bool := (Nat.ble 8 i && Nat.ble i 18) || Nat.beq i 22
noncomputable def VR10 (v : VF) : VF := fun i => match Nat.beq i 19 with
  | true => .agg #[junk, junk, junk, junk, junk, junk, junk, junk, junk, junk, junk, junk, junk, junk, junk]
  | false => match Nat.beq i 20 with
  | true => .agg #[junk, junk]
  | false => match Nat.beq i 21 with
  | true => .agg #[junk, junk, junk, junk, junk, junk, junk, junk]
  | false => match WR10 i with
  | true => junk
  | false => v i
def BR10 (i : Nat) : Bool := ((Nat.ble 0 i && Nat.ble i 5) || Nat.beq i 7) || WR10 i || Nat.beq i 19 || Nat.beq i 20 || Nat.beq i 21
theorem VR10_dead {v : VF} (h : ∀ i, DeadV (v i)) (i : Nat) : DeadV (VR10 v i) := by
  unfold VR10
  split
  · exact ⟨rfl, fun _ => rfl, fun _ => rfl⟩
  split
  · exact ⟨rfl, fun _ => rfl, fun _ => rfl⟩
  split
  · exact ⟨rfl, fun _ => rfl, fun _ => rfl⟩
  split
  · exact DeadV.junk
  · exact h i
theorem lvR10 (i : Nat) (h : ((Nat.ble 0 i && Nat.ble i 5) || Nat.beq i 7) = true) : BR10 i = true := by
  unfold BR10
  simp only [Bool.or_eq_true] at h ⊢
  refine .inl ?_
  refine .inl ?_
  refine .inl ?_
  exact .inl h
def WX10 (i : Nat) : Bool := (Nat.ble 8 i && Nat.ble i 12)
noncomputable def VX10 (v : VF) : VF := fun i => match WX10 i with
  | true => junk
  | false => v i
def BX10 (i : Nat) : Bool := ((Nat.ble 0 i && Nat.ble i 5) || Nat.beq i 7) || WX10 i
theorem VX10_dead {v : VF} (h : ∀ i, DeadV (v i)) (i : Nat) : DeadV (VX10 v i) := by
  unfold VX10
  split
  · exact DeadV.junk
  · exact h i
theorem lvX10 (i : Nat) (h : ((Nat.ble 0 i && Nat.ble i 5) || Nat.beq i 7) = true) : BX10 i = true := by
  unfold BX10
  simp only [Bool.or_eq_true] at h ⊢
  exact .inl h
def pD_10 (x : MX) (p : PV) (a l : Int) (y : AV) (i : Nat) : Prop := True
def pR_10 (x : MX) (p : PV) (a l : Int) (y : AV) (i : Nat) : Prop := ((((((True ∧ decide (nI i < nI p.n) = true) ∧ 0 ≤ nI i ∧ nI i < nI p.n) ∧ (0 + i * 15) % 15 = 0 ∧ (0 + i * 15) / 15 < x.RN p.P) ∧ x.F = x.F ∧ (rvOk (x.rv p.P (ixR i)) ∧ pvOk a l ∧ avOk x y)) ∧ (fitsE x (x.rv p.P (ixR i)) a l y) = false) ∧ IntKind.i64.wrap (nI i + 1) = nI i + 1)
def pX_10 (x : MX) (p : PV) (a l : Int) (y : AV) (i : Nat) : Prop := (True ∧ decide (nI i < nI p.n) = false)
def pF0_10 (x : MX) (p : PV) (a l : Int) (y : AV) (i : Nat) : Prop := (((((True ∧ decide (nI i < nI p.n) = true) ∧ 0 ≤ nI i ∧ nI i < nI p.n) ∧ (0 + i * 15) % 15 = 0 ∧ (0 + i * 15) / 15 < x.RN p.P) ∧ x.F = x.F ∧ (rvOk (x.rv p.P (ixR i)) ∧ pvOk a l ∧ avOk x y)) ∧ (fitsE x (x.rv p.P (ixR i)) a l y) = true)
def pE0_10 (x : MX) (p : PV) (a l : Int) (y : AV) (i : Nat) : Prop := True
theorem kD10 (x : MX) (p : PV) (a l : Int) (y : AV) : (gd10 (KG x) (z10 x p a l y) []).map (fun r => (r.2, r.1.obl, seenInT BD10 r.1 (s10 x p a l y 0 (VD10 vU)) [0, 1, 2, 3])) = some (.loop l10, pD_10 x p a l y 0, seenAsT BD10 (s10 x p a l y 0 (VD10 vU)) [0, 1, 2, 3] 4) := by kernel_rfl
theorem kR10 (x : MX) (p : PV) (a l : Int) (y : AV) (i : Nat) (v : VF) : (go10 (KG x) l10 (s10 x p a l y i v) [some true, some true, some false, some true, some false, some true]).map (fun r => (r.1, r.2.obl, seenInT BR10 r.2 (s10 x p a l y (i + 1) (VR10 v)) [0, 1, 2, 3])) = some (.normal, pR_10 x p a l y i, seenAsT BR10 (s10 x p a l y (i + 1) (VR10 v)) [0, 1, 2, 3] 4) := by kernel_rfl
theorem kX10 (x : MX) (p : PV) (a l : Int) (y : AV) (i : Nat) (v : VF) : (go10 (KG x) l10 (s10 x p a l y i v) [some false]).map (fun r => (r.1, r.2.obl, seenInT BX10 r.2 (s10 x p a l y i (VX10 v)) [0, 1, 2, 3])) = some (.exit 0, pX_10 x p a l y i, seenAsT BX10 (s10 x p a l y i (VX10 v)) [0, 1, 2, 3] 4) := by kernel_rfl
theorem kF0_10 (x : MX) (p : PV) (a l : Int) (y : AV) (i : Nat) (v : VF) : (go10 (KG x) l10 (s10 x p a l y i v) [some true, some true, some false, some true, some true]).bind (fun r => (results1 Tryz.prog r.2 [.tmp 6]).map fun q => (r.1, q.2.obl, r.2.defers, oneOf q.1)) = some (.ret, pF0_10 x p a l y i, [], .int .i64 (nI i)) := by kernel_rfl
theorem kE0_10 (x : MX) (p : PV) (a l : Int) (y : AV) (i : Nat) (v : VF) : (go10 (KG x) e10 (s10 x p a l y i v) []).bind (fun r => (results1 Tryz.prog r.2 [.tmp 6]).map fun q => (r.1, q.2.obl, r.2.defers, oneOf q.1)) = some (.ret, pE0_10 x p a l y i, [], .int .i64 (-1)) := by kernel_rfl
theorem okD10 (x : MX) (p : PV) (a l : Int) (y : AV) (i : Nat) (v : VF) : picOkT BD10 (z10 x p a l y) (s10 x p a l y i (VD10 v)) [0, 1, 2, 3] = true := by kernel_rfl
theorem okR10 (x : MX) (p : PV) (a l : Int) (y : AV) (i : Nat) (v : VF) : picOkT BR10 (z10 x p a l y) (s10 x p a l y i (VR10 v)) [0, 1, 2, 3] = true := by kernel_rfl
theorem okX10 (x : MX) (p : PV) (a l : Int) (y : AV) (i : Nat) (v : VF) : picOkT BX10 (z10 x p a l y) (s10 x p a l y i (VX10 v)) [0, 1, 2, 3] = true := by kernel_rfl
theorem up10 (x : MX) (p : PV) (a l : Int) (y : AV) (Q_ : Exit → St → Prop) : upQ Tryz.prog none (z10 x p a l y) [2, 3, 2, 0] b10 Q_ = fun e s => (fun e s => (e = .normal ∧ StepG Tryz.prog none (z10 x p a l y) e10 s Q_) ∨ (e ≠ .normal ∧ Q_ e s)) (blockOut 0 e) s := by kernel_rfl
theorem rd10 {x : MX} {p : PV} {a l : Int} {y : AV} (hP : rulesOk x p.P p.n) (hq : pvOk a l) (hA : avOk x y) : Rd Tryz.prog x.F 10 (a10 p a l y) (.int .i64 (whereI (notE x p.P a l y) p.n)) := by
  obtain ⟨p1, p2, p3⟩ := hP
  refine find_rd (way := [2, 3, 2, 0]) (pic := fun i v => s10 x p a l y i v) (e := notE x p.P a l y) (N := p.n) (v0 := VD10 vU) (s0 := z10 x p a l y) rfl fn10 rfl (fun Q_ h => StepG.downs pg (KG_ok x) (kD10 x p a l y) (trivial) (tm10_dead (VD10_dead vU_dead) lvD10) (h10_ok x p a l y) rfl (okD10 x p a l y 0 vU) h) (up10 x p a l y) (fun i v hv hi he => ?_) (fun i v hv hi hp he => ?_) (fun v hv => ?_) (fun hall v hv => ?_) (VD10_dead vU_dead)
  · refine (StepG.stdT (s0 := z10 x p a l y) (rd := none) pg (KG_ok x) (kR10 x p a l y i v) ?_ (show 1 ≤ 4 by decide) (tm10_dead (VR10_dead hv) lvR10) (h10_ok x p a l y) rfl (okR10 x p a l y (i + 1) v)).mono ?_
    · exact ⟨⟨⟨⟨⟨⟨trivial, decide_eq_true (by unfold nI; omega)⟩, by unfold nI; omega⟩, by omega⟩, ⟨rfl, by rw [ixR_eq]; exact p3 i hi, hq, hA⟩⟩, by unfold notE at he; simpa using he⟩, by rw [IntKind.wrap_i64]; unfold nI; omega⟩
    · rintro ex s_ ⟨rfl, rfl⟩
      exact ⟨rfl, _, VR10_dead hv, rfl⟩
  · rw [whereI_at hi hp he]
    exact StepG.ranV (s0 := z10 x p a l y) (rd := none) pg (KG_ok x) (kF0_10 x p a l y i v) ⟨⟨⟨⟨⟨trivial, decide_eq_true (by unfold nI; omega)⟩, by unfold nI; omega⟩, by omega⟩, ⟨rfl, by rw [ixR_eq]; exact p3 i hi, hq, hA⟩⟩, by unfold notE at he; simpa using he⟩ (show 1 ≤ 4 by decide)
  · refine (StepG.stdT (s0 := z10 x p a l y) (rd := none) pg (KG_ok x) (kX10 x p a l y p.n v) ⟨trivial, decide_eq_false (by unfold nI; omega)⟩ (show 1 ≤ 4 by decide) (tm10_dead (VX10_dead hv) lvX10) (h10_ok x p a l y) rfl (okX10 x p a l y p.n v)).mono ?_
    rintro ex s_ ⟨rfl, rfl⟩
    exact ⟨rfl, _, VX10_dead hv, rfl⟩
  · rw [whereI_all hall]
    exact StepG.ranV (s0 := z10 x p a l y) (rd := none) pg (KG_ok x) (kE0_10 x p a l y p.n v) trivial (show 1 ≤ 4 by decide)
end
end ob
end Go.Proofs.YthpoeegoankpoaaGreat
namespace Go.Proofs.YthpoeegoankpoaaGreat
open Go.ChangeShapes Go.WideShapes Go.ChangeAt Go.RowKit Go.Cln
namespace ob
set_option linter.unusedVariables false
noncomputable section
noncomputable def askW (tpl : List Value) (keep : List Nat) (X : St) (e : Exit) (f : FuncId) (c : Code) (s : St) : Option Ask3 := if f == 78 then some ⟨tpl, keep, e, fun _ => X⟩ else none
noncomputable def KW (x : MX) (tpl : List Value) (keep : List Nat) (X : St) (e : Exit) : Given := { Given.rds (Given.asking3 Given.nothing Tryz.prog (askW tpl keep X e)) x.F (TG x) with fits := true }
theorem KW_ok (x : MX) (tpl : List Value) (keep : List Nat) (X : St) (e : Exit) : GivenOk Tryz.prog (KW x tpl keep X e) := frames_fits (((GivenOk.nothing _).asking3 (askW tpl keep X e)).rds (TG_ok x)) true
end
end ob
end Go.Proofs.YthpoeegoankpoaaGreat
namespace Go.Proofs.YthpoeegoankpoaaGreat
open Go.ChangeShapes Go.WideShapes Go.ChangeAt Go.RowKit Go.Cln
namespace ob
set_option linter.unusedVariables false
noncomputable section
noncomputable def rec9 (p : PV) (a l : Int) (y : AV) (st : LoopState) (pe : Option Code) : CLoop := { state := st, pending := pe, tmps := [p.v, pv a l, y.v, .pointer (some ⟨1, 0, none⟩), .pointer (some ⟨2, 0, none⟩), .pointer (some ⟨3, 0, none⟩), .pointer (some ⟨4, 0, none⟩), undef, undef, p.v, .func (.func 78) #[] #[.pointer (some ⟨6, 0, none⟩)], undef, undef, undef, undef, undef, undef, undef], params := (rngAt Tryz.prog 9 0).1, assign := (rngAt Tryz.prog 9 0).2.1, body := (rngAt Tryz.prog 9 0).2.2, defers := 7 }
def l9 : Code := loopB Tryz.prog 78 0
noncomputable def tm9 (v : VF) (p : PV) (a l : Int) (y : AV) (i : Nat) : List Value := (.func (.yield 8) #[] #[] :: .pointer (some ⟨6, 0, none⟩) :: vs v 2 3 (PR p.P p.n p.c :: .int .i64 (nI p.n) :: .int .i64 (nI i) :: vs v 8 10 []))
theorem tm9_dead {v : VF} {p : PV} {a l : Int} {y : AV} {i : Nat} {B : Nat → Bool} (h : ∀ i, DeadV (v i)) (hB : ∀ i, ((Nat.ble 0 i && Nat.ble i 1) || (Nat.ble 5 i && Nat.ble i 7)) = true → B i = true) : deadT B 0 (tm9 v p a l y i) :=
  ⟨fun e => absurd e (by rw [hB 0 rfl]; decide), ⟨fun e => absurd e (by rw [hB 1 rfl]; decide), deadT_vs h 3 (⟨fun e => absurd e (by rw [hB 5 rfl]; decide), ⟨fun e => absurd e (by rw [hB 6 rfl]; decide), ⟨fun e => absurd e (by rw [hB 7 rfl]; decide), deadT_vs h 10 (trivial)⟩⟩⟩)⟩⟩
noncomputable def h9 (x : MX) (p : PV) (a l : Int) (y : AV) (i : Nat) : Nat → Option Ob := fun i_ => match i_ with
  | 0 => some (.fam x.F)
  | 1 => some (.cells (.lit p.l) 29)
  | 2 => some (.cells (.lit [.int .u32 a, .int .u8 l]) 24)
  | 3 => some (.cells (.lit y.l) 33)
  | 4 => some (.cells (.lit [.int .i64 0]) 3)
  | 5 => some (.cells (.lit p.l) 29)
  | 6 => some (.cells (.lit [PR p.P p.n p.c]) 27)
  | 7 => some .marks
  | 8 => some (.loop (rec9 p a l y .ready none))
  | _ => none
theorem h9_ok (x : MX) (p : PV) (a l : Int) (y : AV) (i : Nat) : Go.Cln.RowsIn (h9 x p a l y i) := by
  intro b n' w' g' t h
  unfold h9 at h
  split at h <;> first | (cases h; done) | cases h
noncomputable def s9 (x : MX) (p : PV) (a l : Int) (y : AV) (i : Nat) (v : VF) : St := ⟨tm9 v p a l y i, [], Tr.rebuild (h9 x p a l y i) 9, 9, 1, [], fun _ => false, True, []⟩
noncomputable def h9h (x : MX) (p : PV) (a l : Int) (y : AV) (i : Nat) : Nat → Option Ob := fun i_ => match i_ with
  | 0 => some (.fam x.F)
  | 1 => some (.cells (.lit p.l) 29)
  | 2 => some (.cells (.lit [.int .u32 a, .int .u8 l]) 24)
  | 3 => some (.cells (.lit y.l) 33)
  | 4 => some (.cells (.lit [.int .i64 (nI i)]) 3)
  | 5 => some (.cells (.lit p.l) 29)
  | 6 => some (.cells (.lit [PR p.P p.n p.c]) 27)
  | 7 => some .marks
  | 8 => some (.loop (rec9 p a l y .done (some .ret)))
  | _ => none
theorem h9h_ok (x : MX) (p : PV) (a l : Int) (y : AV) (i : Nat) : Go.Cln.RowsIn (h9h x p a l y i) := by
  intro b n' w' g' t h
  unfold h9h at h
  split at h <;> first | (cases h; done) | cases h
noncomputable def s9h (x : MX) (p : PV) (a l : Int) (y : AV) (i : Nat) (v : VF) : St := ⟨tm9 v p a l y i, [], Tr.rebuild (h9h x p a l y i) 9, 9, 1, [], fun _ => false, True, []⟩
noncomputable def go9 (rd : Option Nat) (K : Given) (c : Code) (s : St) (o : List (Option Bool)) : Option (Exit × St) := (mk Tryz.prog K 200).code 78 rd c { s with obl := True, orc := o }
end
end ob
end Go.Proofs.YthpoeegoankpoaaGreat
namespace Go.Proofs.YthpoeegoankpoaaGreat
open Go.ChangeShapes Go.WideShapes Go.ChangeAt Go.RowKit Go.Cln
namespace ob
set_option linter.unusedVariables false
noncomputable section
def WR9 (i : Nat) : Bool := (Nat.ble 3 i && Nat.ble i 4) || (Nat.ble 8 i && Nat.ble i 10) || (Nat.ble 12 i && Nat.ble i 13) || (Nat.ble 15 i && Nat.ble i 17)
noncomputable def VR9 (v : VF) : VF := fun i => match Nat.beq i 11 with
  | true => .agg #[junk, junk, junk, junk, junk, junk, junk, junk, junk, junk, junk, junk, junk, junk, junk]
  | false => match Nat.beq i 14 with
  | true => .agg #[junk, junk, junk, junk, junk, junk, junk, junk, junk, junk, junk, junk, junk, junk, junk]
  | false => match WR9 i with
  | true => junk
  | false => v i
def BR9 (i : Nat) : Bool := ((Nat.ble 0 i && Nat.ble i 1) || (Nat.ble 5 i && Nat.ble i 7)) || WR9 i || Nat.beq i 11 || Nat.beq i 14
theorem VR9_dead {v : VF} (h : ∀ i, DeadV (v i)) (i : Nat) : DeadV (VR9 v i) := by
  unfold VR9
  split
  · exact ⟨rfl, fun _ => rfl, fun _ => rfl⟩
  split
  · exact ⟨rfl, fun _ => rfl, fun _ => rfl⟩
  split
  · exact DeadV.junk
  · exact h i
theorem lvR9 (i : Nat) (h : ((Nat.ble 0 i && Nat.ble i 1) || (Nat.ble 5 i && Nat.ble i 7)) = true) : BR9 i = true := by
  unfold BR9
  simp only [Bool.or_eq_true] at h ⊢
  refine .inl ?_
  refine .inl ?_
  exact .inl h
def WX9 (i : Nat) : Bool := Nat.beq i 8
noncomputable def VX9 (v : VF) : VF := fun i => match WX9 i with
  | true => junk
  | false => v i
def BX9 (i : Nat) : Bool := ((Nat.ble 0 i && Nat.ble i 1) || (Nat.ble 5 i && Nat.ble i 7)) || WX9 i
theorem VX9_dead {v : VF} (h : ∀ i, DeadV (v i)) (i : Nat) : DeadV (VX9 v i) := by
  unfold VX9
  split
  · exact DeadV.junk
  · exact h i
theorem lvX9 (i : Nat) (h : ((Nat.ble 0 i && Nat.ble i 1) || (Nat.ble 5 i && Nat.ble i 7)) = true) : BX9 i = true := by
  unfold BX9
  simp only [Bool.or_eq_true] at h ⊢
  exact .inl h
def WH9 (i : Nat) : Bool := (Nat.ble 3 i && Nat.ble i 4) || (Nat.ble 8 i && Nat.ble i 10) || (Nat.ble 12 i && Nat.ble i 13) || (Nat.ble 15 i && Nat.ble i 16)
noncomputable def VH9 (v : VF) : VF := fun i => match Nat.beq i 11 with
  | true => .agg #[junk, junk, junk, junk, junk, junk, junk, junk, junk, junk, junk, junk, junk, junk, junk]
  | false => match Nat.beq i 14 with
  | true => .agg #[junk, junk, junk, junk, junk, junk, junk, junk, junk, junk, junk, junk, junk, junk, junk]
  | false => match WH9 i with
  | true => junk
  | false => v i
def BH9 (i : Nat) : Bool := ((Nat.ble 0 i && Nat.ble i 1) || (Nat.ble 5 i && Nat.ble i 7)) || WH9 i || Nat.beq i 11 || Nat.beq i 14
theorem VH9_dead {v : VF} (h : ∀ i, DeadV (v i)) (i : Nat) : DeadV (VH9 v i) := by
  unfold VH9
  split
  · exact ⟨rfl, fun _ => rfl, fun _ => rfl⟩
  split
  · exact ⟨rfl, fun _ => rfl, fun _ => rfl⟩
  split
  · exact DeadV.junk
  · exact h i
theorem lvH9 (i : Nat) (h : ((Nat.ble 0 i && Nat.ble i 1) || (Nat.ble 5 i && Nat.ble i 7)) = true) : BH9 i = true := by
  unfold BH9
  simp only [Bool.or_eq_true] at h ⊢
  refine .inl ?_
  refine .inl ?_
  exact .inl h
theorem kR9 (rd : Option Nat) (x : MX) (p : PV) (a l : Int) (y : AV) (i : Nat) (v : VF) : (go9 rd (KG x) l9 (s9 x p a l y i v) [some true, some true, some false, some true, some false, none, some true]).map (fun u_ => (u_.1, u_.2.obl, seenInT BR9 u_.2 (s9 x p a l y (i + 1) (VR9 v)) [0, 1, 2, 3, 4, 5, 6, 7, 8])) = some (.normal, ((((((True ∧ decide (nI i < nI p.n) = true) ∧ 0 ≤ nI i ∧ nI i < nI p.n) ∧ (0 + i * 15) % 15 = 0 ∧ (0 + i * 15) / 15 < x.RN p.P) ∧ x.F = x.F ∧ (rvOk (x.rv p.P (ixR i)) ∧ pvOk a l ∧ avOk x y)) ∧ (fitsE x (x.rv p.P (ixR i)) a l y) = false) ∧ IntKind.i64.wrap (nI i + 1) = nI i + 1), seenAsT BR9 (s9 x p a l y (i + 1) (VR9 v)) [0, 1, 2, 3, 4, 5, 6, 7, 8] 11) := by kernel_rfl
theorem kX9 (rd : Option Nat) (x : MX) (p : PV) (a l : Int) (y : AV) (i : Nat) (v : VF) : (go9 rd (KG x) l9 (s9 x p a l y i v) [some false]).map (fun u_ => (u_.1, u_.2.obl, seenInT BX9 u_.2 (s9 x p a l y i (VX9 v)) [0, 1, 2, 3, 4, 5, 6, 7, 8])) = some (.exit 0, (True ∧ decide (nI i < nI p.n) = false), seenAsT BX9 (s9 x p a l y i (VX9 v)) [0, 1, 2, 3, 4, 5, 6, 7, 8] 9) := by kernel_rfl
theorem kH9 (rd : Option Nat) (x : MX) (p : PV) (a l : Int) (y : AV) (i : Nat) (v : VF) : (go9 rd (KG x) l9 (s9 x p a l y i v) [some true, some true, some false, some true, some true]).map (fun u_ => (u_.1, u_.2.obl, seenInT BH9 u_.2 (s9h x p a l y i (VH9 v)) [0, 1, 2, 3, 4, 5, 6, 7, 8])) = some (.ret, (((((True ∧ decide (nI i < nI p.n) = true) ∧ 0 ≤ nI i ∧ nI i < nI p.n) ∧ (0 + i * 15) % 15 = 0 ∧ (0 + i * 15) / 15 < x.RN p.P) ∧ x.F = x.F ∧ (rvOk (x.rv p.P (ixR i)) ∧ pvOk a l ∧ avOk x y)) ∧ (fitsE x (x.rv p.P (ixR i)) a l y) = true), seenAsT BH9 (s9h x p a l y i (VH9 v)) [0, 1, 2, 3, 4, 5, 6, 7, 8] 11) := by kernel_rfl
theorem okR9 (rd : Option Nat) (x : MX) (p : PV) (a l : Int) (y : AV) (i : Nat) (v : VF) : picOkT BR9 (s9 x p a l y 0 vU) (s9 x p a l y i (VR9 v)) [0, 1, 2, 3, 4, 5, 6, 7, 8] = true := by kernel_rfl
theorem okX9 (rd : Option Nat) (x : MX) (p : PV) (a l : Int) (y : AV) (i : Nat) (v : VF) : picOkT BX9 (s9 x p a l y 0 vU) (s9 x p a l y i (VX9 v)) [0, 1, 2, 3, 4, 5, 6, 7, 8] = true := by kernel_rfl
theorem okH9 (rd : Option Nat) (x : MX) (p : PV) (a l : Int) (y : AV) (i : Nat) (v : VF) : picOkT BH9 (s9 x p a l y 0 vU) (s9h x p a l y i (VH9 v)) [0, 1, 2, 3, 4, 5, 6, 7, 8] = true := by kernel_rfl
end
end ob
end Go.Proofs.YthpoeegoankpoaaGreat
namespace Go.Proofs.YthpoeegoankpoaaGreat
open Go.ChangeShapes Go.WideShapes Go.ChangeAt Go.RowKit Go.Cln
namespace ob
set_option linter.unusedVariables false
noncomputable section
noncomputable def W9 : Nat → VF
  | 0 => vU
  | _ + 1 => VR9 vU
theorem W9_dead : ∀ i j, DeadV (W9 i j)
  | 0, j => vU_dead j
  | _ + 1, j => VR9_dead vU_dead j
theorem W9_tm {p : PV} {a l : Int} {y : AV} {k : Nat} : ∀ i, tm9 (VR9 (W9 i)) p a l y k = tm9 (W9 (i + 1)) p a l y k
  | 0 => rfl
  | _ + 1 => rfl
theorem W9_s {x : MX} {p : PV} {a l : Int} {y : AV} (i : Nat) : s9 x p a l y (i + 1) (VR9 (W9 i)) = s9 x p a l y (i + 1) (W9 (i + 1)) := by unfold s9; rw [W9_tm]
noncomputable abbrev H9 (x : MX) (p : PV) (a l : Int) (y : AV) : St := s9 x p a l y 0 vU
theorem loop9 {x : MX} {p : PV} {a l : Int} {y : AV} {rd : Option Nat} (hP : rulesOk x p.P p.n) (hq : pvOk a l) (hA : avOk x y) : StepG Tryz.prog rd (H9 x p a l y) (.loop l9) (H9 x p a l y) fun ex s => (ex = .exit 0 ∧ (∀ j, j < p.n → notE x p.P a l y j = true) ∧ s = s9 x p a l y p.n (VX9 (W9 p.n))) ∨ (ex ≠ .normal ∧ ex = .ret ∧ ∃ k, k < p.n ∧ (∀ j, j < k → notE x p.P a l y j = true) ∧ notE x p.P a l y k = false ∧ s = s9h x p a l y k (VH9 (W9 k))) := by
  obtain ⟨p1, p2, p3⟩ := hP
  refine findLoopX (pic := fun i _ => s9 x p a l y i (W9 i)) (e := notE x p.P a l y) (N := p.n) (id := 0) (QX := fun s => s = s9 x p a l y p.n (VX9 (W9 p.n))) (QD := fun ex s => ex = .ret ∧ ∃ k, k < p.n ∧ (∀ j, j < k → notE x p.P a l y j = true) ∧ notE x p.P a l y k = false ∧ s = s9h x p a l y k (VH9 (W9 k))) (fun i v hv hi he => ?_) (fun i v hv hi hp he => ?_) (fun v hv => ?_) vU_dead
  · refine (StepG.stdT (s0 := H9 x p a l y) (rd := rd) pg (KG_ok x) (kR9 rd x p a l y i (W9 i)) ⟨⟨⟨⟨⟨⟨trivial, decide_eq_true (by unfold nI; omega)⟩, by unfold nI; omega⟩, by omega⟩, ⟨rfl, by rw [ixR_eq]; exact p3 i hi, hq, hA⟩⟩, (by unfold notE at he; simpa using he)⟩, (by rw [IntKind.wrap_i64]; unfold nI; omega)⟩ (show 9 ≤ 9 by decide) (tm9_dead (a := a) (l := l) (y := y) (VR9_dead (W9_dead i)) lvR9) (h9_ok x p a l y (i + 1)) rfl (okR9 rd x p a l y (i + 1) (W9 i))).mono ?_
    rintro ex s ⟨rfl, rfl⟩
    exact ⟨rfl, vU, vU_dead, W9_s i⟩
  · refine (StepG.stdT (s0 := H9 x p a l y) (rd := rd) pg (KG_ok x) (kH9 rd x p a l y i (W9 i)) ⟨⟨⟨⟨⟨trivial, decide_eq_true (by unfold nI; omega)⟩, by unfold nI; omega⟩, by omega⟩, ⟨rfl, by rw [ixR_eq]; exact p3 i hi, hq, hA⟩⟩, (by unfold notE at he; simpa using he)⟩ (show 9 ≤ 9 by decide) (tm9_dead (a := a) (l := l) (y := y) (VH9_dead (W9_dead i)) lvH9) (h9h_ok x p a l y i) rfl (okH9 rd x p a l y i (W9 i))).mono ?_
    rintro ex s ⟨rfl, rfl⟩
    exact ⟨(by intro h; cases h), rfl, i, hi, hp, he, rfl⟩
  · refine (StepG.stdT (s0 := H9 x p a l y) (rd := rd) pg (KG_ok x) (kX9 rd x p a l y p.n (W9 p.n)) ⟨trivial, decide_eq_false (by unfold nI; omega)⟩ (show 9 ≤ 9 by decide) (tm9_dead (a := a) (l := l) (y := y) (VX9_dead (W9_dead p.n)) lvX9) (h9_ok x p a l y p.n) rfl (okX9 rd x p a l y p.n (W9 p.n))).mono ?_
    rintro ex s ⟨rfl, rfl⟩
    exact ⟨rfl, rfl⟩
end
end ob
end Go.Proofs.YthpoeegoankpoaaGreat
namespace Go.Proofs.YthpoeegoankpoaaGreat
open Go.ChangeShapes Go.WideShapes Go.ChangeAt Go.RowKit Go.Cln
namespace ob
set_option linter.unusedVariables false
noncomputable section
noncomputable abbrev tpl9 : List Value := List.replicate 18 undef
noncomputable abbrev kp9 : List Nat := [0, 1, 2, 3, 4, 5, 6, 7, 8]
noncomputable def Xh9 (x : MX) (p : PV) (a l : Int) (y : AV) (k : Nat) : St := s9h x p a l y k (VH9 (W9 k))
noncomputable def Xn9 (x : MX) (p : PV) (a l : Int) (y : AV) : St := s9 x p a l y p.n (VX9 (W9 p.n))
theorem k9h (x : MX) (p : PV) (a l : Int) (y : AV) (k : Nat) : ((mk Tryz.prog (KW x tpl9 kp9 (Xh9 x p a l y k) .ret) 200).call 9 [p.v, pv a l, y.v] (smSt 1 [some (.fam x.F)] [])).map (fun r => (r.1, r.2.obl)) = some (.int .i64 (nI k), True ∧ ∀ rd, CodeOk Tryz.prog rd (.loop l9) (H9 x p a l y) .ret (Xh9 x p a l y k).bare) := by kernel_rfl
theorem k9n (x : MX) (p : PV) (a l : Int) (y : AV) : ((mk Tryz.prog (KW x tpl9 kp9 (Xn9 x p a l y) (.exit 0)) 200).call 9 [p.v, pv a l, y.v] (smSt 1 [some (.fam x.F)] [])).map (fun r => (r.1, r.2.obl)) = some (.int .i64 (-1), True ∧ ∀ rd, CodeOk Tryz.prog rd (.loop l9) (H9 x p a l y) (.exit 0) (Xn9 x p a l y).bare) := by kernel_rfl
theorem H9_fam {x : MX} {p : PV} {a l : Int} {y : AV} : (H9 x p a l y).heap.get 0 = some (.fam x.F) := by kernel_rfl
theorem Xh9_fam {x : MX} {p : PV} {a l : Int} {y : AV} {k : Nat} : (Xh9 x p a l y k).heap.get 0 = some (.fam x.F) := by kernel_rfl
theorem Xn9_fam {x : MX} {p : PV} {a l : Int} {y : AV} : (Xn9 x p a l y).heap.get 0 = some (.fam x.F) := by kernel_rfl
theorem rd9 {x : MX} {p : PV} {a l : Int} {y : AV} (hP : rulesOk x p.P p.n) (hq : pvOk a l) (hA : avOk x y) : Rd Tryz.prog x.F 9 [p.v, pv a l, y.v] (.int .i64 (whereI (notE x p.P a l y) p.n)) := by
  by_cases h : ∀ j, j < p.n → notE x p.P a l y j = true
  · rw [whereI_all h]
    refine Rd.run pg (KW_ok x _ _ _ _) (k9n x p a l y) ⟨trivial, fun rd => CodeOk.of_stepG H9_fam ((loop9 hP hq hA).mono ?_)⟩ rfl
    rintro ex s (⟨rfl, _, rfl⟩ | ⟨_, rfl, k, hk, _, he, _⟩)
    · exact ⟨rfl, rfl, rfl, rfl, rfl, rfl, rfl, ⟨_, Xn9_fam⟩, Xn9_fam.trans H9_fam.symm, fun _ _ => rfl⟩
    · rw [h k hk] at he; cases he
  · have : ∃ k, k < p.n ∧ (∀ j, j < k → notE x p.P a l y j = true) ∧ notE x p.P a l y k = false := by
      have hf : allB (notE x p.P a l y) p.n = false := Bool.eq_false_iff.2 fun h2 => h (allB_iff.1 h2)
      clear h hP
      generalize p.n = n at hf
      induction n with
      | zero => cases hf
      | succ n ih =>
        cases h3 : allB (notE x p.P a l y) n with
        | false =>
          obtain ⟨k, h4, h5⟩ := ih h3
          exact ⟨k, by omega, h5⟩
        | true =>
          simp only [allB, h3, Bool.true_and] at hf
          exact ⟨n, by omega, allB_iff.1 h3, hf⟩
    obtain ⟨k, hk, hp, he⟩ := this
    rw [whereI_at hk hp he]
    refine Rd.run pg (KW_ok x _ _ _ _) (k9h x p a l y k) ⟨trivial, fun rd => CodeOk.of_stepG H9_fam ((loop9 hP hq hA).mono ?_)⟩ rfl
    rintro ex s (⟨rfl, h1, _⟩ | ⟨_, rfl, j, hj, hp2, he2, rfl⟩)
    · rw [h1 k hk] at he; cases he
    · obtain rfl := first_no hk hp he hj hp2 he2
      exact ⟨rfl, rfl, rfl, rfl, rfl, rfl, rfl, ⟨_, Xh9_fam⟩, Xh9_fam.trans H9_fam.symm, fun _ _ => rfl⟩
end
end ob
end Go.Proofs.YthpoeegoankpoaaGreat
namespace Go.Proofs.YthpoeegoankpoaaGreat
open Go.ChangeShapes Go.WideShapes Go.ChangeAt Go.RowKit Go.Cln
namespace ob
set_option linter.unusedVariables false
noncomputable section
theorem rd5w {x : MX} {p : PV} {a : AV} (hA : a.n ≤ x.LN a.P ∧ a.n ≤ 9223372036854775807) : Rd Tryz.prog x.F 5 (a5 p a) (.bool (fewE x p a)) := by
  obtain ⟨p1, p2⟩ := hA
  refine find_rd (way := [2, 3, 2, 0]) (pic := fun i v => s5 x p a i v) (e := fewLegE x a.P) (N := a.n) (v0 := VD5 vU) (s0 := z5 x p a) rfl fn5 rfl (fun Q_ h => StepG.downs pg KN_ok (kD5 x p a) (trivial) (tm5_dead (VD5_dead vU_dead) lvD5) (h5_ok x p a) rfl (okD5 x p a 0 vU) h) (up5 x p a) (fun i v hv hi he => ?_) (fun i v hv hi hp he => ?_) (fun v hv => ?_) (fun hall v hv => ?_) (VD5_dead vU_dead)
  · refine (StepG.stdT (s0 := z5 x p a) (rd := none) pg KN_ok (kR5 x p a i v) ?_ (show 1 ≤ 3 by decide) (tm5_dead (VR5_dead hv) lvR5) (h5_ok x p a) rfl (okR5 x p a (i + 1) v)).mono ?_
    · exact ⟨⟨⟨⟨⟨trivial, decide_eq_true (by unfold nI; omega)⟩, by unfold nI; omega⟩, by omega⟩, by unfold fewLegE at he; simpa using he⟩, by rw [IntKind.wrap_i64]; unfold nI; omega⟩
    · rintro ex s_ ⟨rfl, rfl⟩
      exact ⟨rfl, _, VR5_dead hv, rfl⟩
  · rw [show fewE x p a = false by unfold fewE; rw [allB_no he hi]; rfl]
    exact StepG.ranV (s0 := z5 x p a) (rd := none) pg KN_ok (kF0_5 x p a i v) ⟨⟨⟨⟨trivial, decide_eq_true (by unfold nI; omega)⟩, by unfold nI; omega⟩, by omega⟩, by unfold fewLegE at he; simpa using he⟩ (show 1 ≤ 3 by decide)
  · refine (StepG.stdT (s0 := z5 x p a) (rd := none) pg KN_ok (kX5 x p a a.n v) ⟨trivial, decide_eq_false (by unfold nI; omega)⟩ (show 1 ≤ 3 by decide) (tm5_dead (VX5_dead hv) lvX5) (h5_ok x p a) rfl (okX5 x p a a.n v)).mono ?_
    rintro ex s_ ⟨rfl, rfl⟩
    exact ⟨rfl, _, VX5_dead hv, rfl⟩
  · rw [show fewE x p a = (decide (nI p.n ≤ 60) && (decide (nI a.n ≤ 20) && decide (nI a.k ≤ 60))) by unfold fewE; rw [allB_all hall, Bool.true_and]]
    rcases Bool.eq_false_or_eq_true (decide (nI p.n ≤ 60)) with h0 | h0
    · rw [h0, Bool.true_and]
      rcases Bool.eq_false_or_eq_true (decide (nI a.n ≤ 20)) with h1 | h1
      · rw [h1, Bool.true_and]
        exact StepG.ranV (s0 := z5 x p a) (rd := none) pg KN_ok (kE0_5 x p a a.n v) ⟨⟨trivial, h0⟩, h1⟩ (show 1 ≤ 3 by decide)
      · rw [h1, Bool.false_and]
        exact StepG.ranV (s0 := z5 x p a) (rd := none) pg KN_ok (kE2_5 x p a a.n v) ⟨⟨trivial, h0⟩, h1⟩ (show 1 ≤ 3 by decide)
    · rw [h0, Bool.false_and]
      exact StepG.ranV (s0 := z5 x p a) (rd := none) pg KN_ok (kE1_5 x p a a.n v) ⟨trivial, h0⟩ (show 1 ≤ 3 by decide)
noncomputable def rw5 (x : MX) (args : List Value) : Option (Value × Prop) := match args with
  | [.agg z0, .agg z1] => (poOf z0).bind fun u => (avOf z1).bind fun w => some (.bool (fewE x ⟨u.1, u.2.1, u.2.2.1, u.2.2.2⟩ w), w.n ≤ x.LN w.P ∧ w.n ≤ 9223372036854775807)
  | _ => none
theorem rw5_ok (x : MX) {args : List Value} {r : Value × Prop} (h : rw5 x args = some r) : flat r.1 = true ∧ args.all farV = true ∧ (r.2 → Rd Tryz.prog x.F 5 args r.1) := by
  unfold rw5 at h
  split at h
  · rename_i z0 z1
    rw [Option.bind_eq_some_iff] at h
    obtain ⟨u, hu, h⟩ := h
    rw [Option.bind_eq_some_iff] at h
    obtain ⟨w, hw, h⟩ := h
    cases h
    rw [poOf_eq hu]
    rw [avOf_eq hw]
    exact ⟨rfl, rfl, fun hp => rd5w (p := ⟨u.1, u.2.1, u.2.2.1, u.2.2.2⟩) hp⟩
  · cases h
noncomputable def rw9 (x : MX) (args : List Value) : Option (Value × Prop) := match args with
  | [.agg z0, .agg z1, .agg z2] => (poOf z0).bind fun u => (pvOf z1).bind fun w => (avOf z2).bind fun z => some (.int .i64 (whereI (notE x u.1 w.1 w.2 z) u.2.1), rulesOk x u.1 u.2.1 ∧ pvOk w.1 w.2 ∧ avOk x z)
  | _ => none
theorem rw9_ok (x : MX) {args : List Value} {r : Value × Prop} (h : rw9 x args = some r) : flat r.1 = true ∧ args.all farV = true ∧ (r.2 → Rd Tryz.prog x.F 9 args r.1) := by
  unfold rw9 at h
  split at h
  · rename_i z0 z1 z2
    rw [Option.bind_eq_some_iff] at h
    obtain ⟨u, hu, h⟩ := h
    rw [Option.bind_eq_some_iff] at h
    obtain ⟨w, hw, h⟩ := h
    rw [Option.bind_eq_some_iff] at h
    obtain ⟨z, hz, h⟩ := h
    cases h
    rw [poOf_eq hu]
    rw [pvOf_eq hw]
    rw [avOf_eq hz]
    exact ⟨rfl, rfl, fun hp => rd9 (p := ⟨u.1, u.2.1, u.2.2.1, u.2.2.2⟩) hp.1 hp.2.1 hp.2.2⟩
  · cases h
noncomputable def rw10 (x : MX) (args : List Value) : Option (Value × Prop) := match args with
  | [.agg z0, .agg z1, .agg z2] => (poOf z0).bind fun u => (pvOf z1).bind fun w => (avOf z2).bind fun z => some (.int .i64 (whereI (notE x u.1 w.1 w.2 z) u.2.1), rulesOk x u.1 u.2.1 ∧ pvOk w.1 w.2 ∧ avOk x z)
  | _ => none
theorem rw10_ok (x : MX) {args : List Value} {r : Value × Prop} (h : rw10 x args = some r) : flat r.1 = true ∧ args.all farV = true ∧ (r.2 → Rd Tryz.prog x.F 10 args r.1) := by
  unfold rw10 at h
  split at h
  · rename_i z0 z1 z2
    rw [Option.bind_eq_some_iff] at h
    obtain ⟨u, hu, h⟩ := h
    rw [Option.bind_eq_some_iff] at h
    obtain ⟨w, hw, h⟩ := h
    rw [Option.bind_eq_some_iff] at h
    obtain ⟨z, hz, h⟩ := h
    cases h
    rw [poOf_eq hu]
    rw [pvOf_eq hw]
    rw [avOf_eq hz]
    exact ⟨rfl, rfl, fun hp => rd10 (p := ⟨u.1, u.2.1, u.2.2.1, u.2.2.2⟩) hp.1 hp.2.1 hp.2.2⟩
  · cases h
noncomputable def TL (x : MX) (f : FuncId) (args : List Value) : Option (Value × Prop) := if f == 5 then rw5 x args else if f == 9 then rw9 x args else if f == 10 then rw10 x args else TG x f args
theorem TL_ok (x : MX) (f : FuncId) (args : List Value) (r : Value × Prop) (h : TL x f args = some r) : flat r.1 = true ∧ args.all farV = true ∧ (r.2 → Rd Tryz.prog x.F f args r.1) := by
  unfold TL at h
  by_cases e5 : (f == 5) = true
  · have hf : f = 5 := by simpa using e5
    subst hf
    exact rw5_ok x h
  rw [if_neg e5] at h
  by_cases e9 : (f == 9) = true
  · have hf : f = 9 := by simpa using e9
    subst hf
    exact rw9_ok x h
  rw [if_neg e9] at h
  by_cases e10 : (f == 10) = true
  · have hf : f = 10 := by simpa using e10
    subst hf
    exact rw10_ok x h
  rw [if_neg e10] at h
  exact TG_ok x f args r h
noncomputable def KL (x : MX) : Given := { Given.rds (Given.one 6 (.bool true)) x.F (TL x) with fits := true }
theorem KL_ok (x : MX) : GivenOk Tryz.prog (KL x) := frames_fits ((GivenOk.one (P := Tryz.prog) (f := 6) (v := .bool true) rfl works).rds (TL_ok x)) true
noncomputable def call_ (K : Given) (x : MX) (f : FuncId) (args : List Value) (o : List (Option Bool)) : Option (Value × St) := (mk Tryz.prog K 300).call f args (smSt 1 [some (.fam x.F)] o)
end
end ob
end Go.Proofs.YthpoeegoankpoaaGreat
namespace Go.Proofs.YthpoeegoankpoaaGreat
open Go.ChangeShapes Go.WideShapes Go.ChangeAt Go.RowKit Go.Cln
namespace ob
set_option linter.unusedVariables false
noncomputable section
theorem m1 (x : MX) (r : RV) (p : PV) (a l : Int) (y : AV) : (call_ (KL x) x 3 [r.v, p.v, pv a l, y.v] [some true]).map (fun r => (r.1, r.2.obl)) = some (.bool true, ((True ∧ (x.F = x.F ∧ (y.n ≤ x.LN y.P ∧ y.n ≤ 9223372036854775807))) ∧ (!fewE x { P := p.P, n := p.n, c := p.c, e := p.e } y) = true)) := by kernel_rfl
theorem m2 (x : MX) (r : RV) (p : PV) (a l : Int) (y : AV) : (call_ (KL x) x 3 [r.v, p.v, pv a l, y.v] [some false, some true, some true, some true, some true, some true, some true, some true, some true, some true, some true, some true, some true, some true, some true, some true, some true, some true, some true, some true]).map (fun r => (r.1, r.2.obl)) = some (.bool true, (((((((((((((((((((((((((((True ∧ (x.F = x.F ∧ (y.n ≤ x.LN y.P ∧ y.n ≤ 9223372036854775807))) ∧ (!fewE x { P := p.P, n := p.n, c := p.c, e := p.e } y) = false) ∧ (x.F = x.F ∧ (rvOk r ∧ pvOk a l ∧ avOk x y))) ∧ (x.F = x.F ∧ (rvOk r ∧ pvOk a l ∧ avOk x y))) ∧ (fitsE x r a l y == fitsE x r a l y) = true) ∧ (fitsE x r a l y == fitsE x r a l y) = true) ∧ (fitsE x r a l y == fitsE x r a l y) = true) ∧ (fitsE x r a l y == fitsE x r a l y) = true) ∧ (fitsE x r a l y == fitsE x r a l y) = true) ∧ (fitsE x r a l y == fitsE x r a l y) = true) ∧ (fitsE x r a l y == fitsE x r a l y) = true) ∧ (x.F = x.F ∧ (rulesOk x p.P p.n ∧ pvOk a l ∧ avOk x y))) ∧ (fitsE x r a l y == fitsE x r a l y) = true) ∧ (x.F = x.F ∧ (rulesOk x p.P p.n ∧ pvOk a l ∧ avOk x y))) ∧ (fitsE x r a l y == fitsE x r a l y) = true) ∧ (fitsE x r a l y == fitsE x r a l y) = true) ∧ (whereI (notE x p.P a l y) p.n == whereI (notE x p.P a l y) p.n) = true) ∧ (whereI (notE x p.P a l y) p.n == whereI (notE x p.P a l y) p.n) = true) ∧ (whereI (notE x p.P a l y) p.n == whereI (notE x p.P a l y) p.n) = true) ∧ (x.F = x.F ∧ (rulesOk x p.P p.n))) ∧ (whereI (notE x p.P a l y) p.n == whereI (notE x p.P a l y) p.n) = true) ∧ (whereI (notE x p.P a l y) p.n == whereI (notE x p.P a l y) p.n) = true) ∧ (x.F = x.F ∧ (rulesOk x p.P p.n))) ∧ (whereI (notE x p.P a l y) p.n == whereI (notE x p.P a l y) p.n) = true) ∧ (whereI (notE x p.P a l y) p.n == whereI (notE x p.P a l y) p.n) = true) ∧ (chkE x p.P p.n == chkE x p.P p.n) = true) ∧ (chkE x p.P p.n == chkE x p.P p.n) = true)) := by kernel_rfl
structure Raw (x : MX) (r : RV) (p : PV) (a l : Int) (y : AV) : Prop where
  r : rvOk r
  q : pvOk a l
  p1 : p.n ≤ x.RN p.P
  p2 : ∀ i, i < p.n → rvOk (x.rv p.P i)
  l1 : y.n ≤ x.LN y.P
  l2 : ∀ i, i < y.n → x.LM y.P i ≤ (x.U (x.LQ y.P i)).length
  t : y.k ≤ (x.U y.Q).length
  b : y.n ≤ maxLen
theorem Raw.bb {x : MX} {r : RV} {p : PV} {a l : Int} {y : AV} (h : Raw x r p a l y) : y.n ≤ 9223372036854775807 := by have := h.b; unfold maxLen at this; omega
theorem Raw.ok {x : MX} {r : RV} {p : PV} {a l : Int} {y : AV} (h : Raw x r p a l y) (hf : fewE x p y = true) : rulesOk x p.P p.n ∧ avOk x y := by
  unfold fewE at hf
  simp only [Bool.and_eq_true, decide_eq_true_eq] at hf
  obtain ⟨f1, f2, f3, f4⟩ := hf
  unfold nI at f2 f3 f4
  refine ⟨⟨h.p1, by omega, h.p2⟩, ⟨h.l1, by omega, fun i hi => ⟨h.l2 i hi, ?_⟩⟩, ⟨h.t, by omega⟩⟩
  have := allB_at f1 i hi
  unfold fewLegE at this
  simp only [ix3_eq, Bool.not_eq_true', decide_eq_false_iff_not] at this
  unfold nI at this; omega
theorem rd3 {x : MX} {r : RV} {p : PV} {a l : Int} {y : AV} (h : Raw x r p a l y) : Rd Tryz.prog x.F 3 [r.v, p.v, pv a l, y.v] (.bool true) := by
  rcases Bool.eq_false_or_eq_true (fewE x p y) with hf | hf
  · obtain ⟨g1, g2⟩ := h.ok hf
    exact Rd.run pg (KL_ok x) (m2 x r p a l y) ⟨⟨⟨⟨⟨⟨⟨⟨⟨⟨⟨⟨⟨⟨⟨⟨⟨⟨⟨⟨⟨⟨⟨⟨⟨⟨⟨trivial, ⟨rfl, h.l1, h.bb⟩⟩, by rw [show fewE x ⟨p.P, p.n, p.c, p.e⟩ y = true from hf]; rfl⟩, ⟨rfl, h.r, h.q, g2⟩⟩, ⟨rfl, h.r, h.q, g2⟩⟩, beq_self_eq_true _⟩, beq_self_eq_true _⟩, beq_self_eq_true _⟩, beq_self_eq_true _⟩, beq_self_eq_true _⟩, beq_self_eq_true _⟩, beq_self_eq_true _⟩, ⟨rfl, g1, h.q, g2⟩⟩, beq_self_eq_true _⟩, ⟨rfl, g1, h.q, g2⟩⟩, beq_self_eq_true _⟩, beq_self_eq_true _⟩, beq_self_eq_true _⟩, beq_self_eq_true _⟩, beq_self_eq_true _⟩, ⟨rfl, g1⟩⟩, beq_self_eq_true _⟩, beq_self_eq_true _⟩, ⟨rfl, g1⟩⟩, beq_self_eq_true _⟩, beq_self_eq_true _⟩, beq_self_eq_true _⟩, beq_self_eq_true _⟩ rfl
  · exact Rd.run pg (KL_ok x) (m1 x r p a l y) ⟨⟨trivial, ⟨rfl, h.l1, h.bb⟩⟩, by rw [show fewE x ⟨p.P, p.n, p.c, p.e⟩ y = false from hf]; rfl⟩ rfl
def shRule : List FC := [.int .u32, .int .u8, .int .u8, .int .u8, .bool, .int .u32, .int .u32, .bool, .bool, .bool, .bool, .int .u32, .int .u32, .int .u32, .int .u8]
def shLeg : List FC := [.bool, .list [.int .u32]]
noncomputable def xW (B : Nat) (W : World) : MX where
  RN P := lead (okRows W shRule P) B
  A P i := iV (cW W P (i * 15 + 0))
  B P i := iV (cW W P (i * 15 + 1))
  C P i := iV (cW W P (i * 15 + 2))
  D P i := iV (cW W P (i * 15 + 3))
  E P i := bV (cW W P (i * 15 + 4))
  G P i := iV (cW W P (i * 15 + 5))
  H P i := iV (cW W P (i * 15 + 6))
  I P i := bV (cW W P (i * 15 + 7))
  J P i := bV (cW W P (i * 15 + 8))
  K P i := bV (cW W P (i * 15 + 9))
  L P i := bV (cW W P (i * 15 + 10))
  M P i := iV (cW W P (i * 15 + 11))
  O P i := iV (cW W P (i * 15 + 12))
  Q P i := iV (cW W P (i * 15 + 13))
  T P i := iV (cW W P (i * 15 + 14))
  U := worldK .u32 W
  LN P := lead (okRows W shLeg P) B
  LS P i := bV (cW W P (i * 2 + 0))
  LQ P i := rowQ (cW W P (i * 2 + 1))
  LM P i := rowM (cW W P (i * 2 + 1))
  LC P i := rowC (cW W P (i * 2 + 1))
theorem famX (B : Nat) (W : World) : FamOk W (xW B W).F := by
  intro g P i v hv
  unfold MX.F at hv
  split at hv
  · exact famInts (k := .u32) hv
  · split at hv
    · refine famRows (sh := shLeg) (sg := 1001) (w := 2) (n := B) (g := (xW B W).leg P) rfl rfl (fun i j v h => ?_) hv
      rcases j with _ | _ | j
      · cases h; exact ⟨_, rfl, rfl⟩
      · cases h; exact ⟨_, rfl, rfl⟩
      · cases h
    · refine famRows (sh := shRule) (sg := 1001) (w := 15) (n := B) (g := (xW B W).row P) rfl rfl (fun i j v h => ?_) hv
      rcases j with _ | _ | _ | _ | _ | _ | _ | _ | _ | _ | _ | _ | _ | _ | _ | j
      · cases h; exact ⟨_, rfl, rfl⟩
      · cases h; exact ⟨_, rfl, rfl⟩
      · cases h; exact ⟨_, rfl, rfl⟩
      · cases h; exact ⟨_, rfl, rfl⟩
      · cases h; exact ⟨_, rfl, rfl⟩
      · cases h; exact ⟨_, rfl, rfl⟩
      · cases h; exact ⟨_, rfl, rfl⟩
      · cases h; exact ⟨_, rfl, rfl⟩
      · cases h; exact ⟨_, rfl, rfl⟩
      · cases h; exact ⟨_, rfl, rfl⟩
      · cases h; exact ⟨_, rfl, rfl⟩
      · cases h; exact ⟨_, rfl, rfl⟩
      · cases h; exact ⟨_, rfl, rfl⟩
      · cases h; exact ⟨_, rfl, rfl⟩
      · cases h; exact ⟨_, rfl, rfl⟩
      · cases h
def POL : List FC := [.list shRule, .bool]
def ATT : List FC := [.int .u8, .list shLeg, .int .u32, .bool, .int .u32, .bool, .int .u32, .list [.int .u32]]
def pW (v : Value) (e : Bool) : PV := ⟨rowQ v, rowM v, rowC v, e⟩
def aW (o : Int) (v : Value) (nx : Int) (hm : Bool) (m : Int) (hp : Bool) (p : Int) (u : Value) : AV := ⟨o, rowQ v, rowM v, rowC v, nx, hm, m, hp, p, rowQ u, rowM u, rowC u⟩
theorem pv_of {a l : Int} (h1 : (Lit.int .u32 a).wf = true) (h2 : (Lit.int .u8 l).wf = true) : pvOk a l := by
  simp only [Lit.wf, Bool.and_eq_true, decide_eq_true_eq] at h1 h2
  exact ⟨⟨h1.1, Int.lt_of_le_of_lt h1.2 (by decide)⟩, h2.1⟩
theorem rawW {B : Nat} (hB : maxLen ≤ B) {W : World} {r : RV} {a l : Int} {v1 : Value} {e : Bool} {o nx m p : Int} {hm hp : Bool} {v2 v3 : Value} (hr : rvOk r) (hq : pvOk a l)
    (t1 : FCv W 8 (.list shRule) v1) (t2 : FCv W 8 (.list shLeg) v2) (t3 : FCv W 8 (.list [.int .u32]) v3) : Raw (xW B W) r (pW v1 e) a l (aW o v2 nx hm m hp p v3) := by
  refine ⟨hr, hq, lenRows (n := 7) hB t1, fun i hi => ?_, lenRows (n := 7) hB t2, fun i hi => ?_, FCv.nums (n := 6) t3, t2.le⟩
  · have k0 := (FCv.cell (n := 7) t1 hi (j := 0) (q := .int .u32) rfl (w := 15) rfl).num
    have k1 := (FCv.cell (n := 7) t1 hi (j := 1) (q := .int .u8) rfl (w := 15) rfl).num
    exact ⟨⟨k0.2.1, Int.lt_of_le_of_lt k0.2.2 (by decide)⟩, k1.2.1⟩
  · exact FCv.nums (n := 5) (FCv.cell (n := 7) t2 hi (j := 1) (q := .list [.int .u32]) rfl (w := 2) rfl)
theorem lawB {B : Nat} (hB : maxLen ≤ B) {W : World} {r : RV} {a l : Int} {v1 : Value} {e : Bool} {o nx m p : Int} {hm hp : Bool} {v2 v3 : Value} (hr : rvOk r) (hq : pvOk a l)
    (z1 : ∀ (j : Nat) (q : FC), POL[j]? = some q → ∃ u : Value, ([v1, .bool e] : List Value)[j]? = some u ∧ FCv W 8 q u)
    (z3 : ∀ (j : Nat) (q : FC), ATT[j]? = some q → ∃ u : Value, ([.int .u8 o, v2, .int .u32 nx, .bool hm, .int .u32 m, .bool hp, .int .u32 p, v3] : List Value)[j]? = some u ∧ FCv W 8 q u) :
    Calls Tryz.prog 3 #[r.v, .agg #[v1, .bool e], pv a l, .agg #[.int .u8 o, v2, .int .u32 nx, .bool hm, .int .u32 m, .bool hp, .int .u32 p, v3]] W fun e w' => e = .returned (.bool true) ∧ Go.RowKit.Below W.heap.size W w' := by
  obtain ⟨u1, e1, t1⟩ := z1 0 _ rfl
  cases e1
  obtain ⟨u2, e2, t2⟩ := z3 1 _ rfl
  cases e2
  obtain ⟨u3, e3, t3⟩ := z3 7 _ rfl
  cases e3
  have raw := rawW (e := e) (o := o) (nx := nx) (m := m) (p := p) (hm := hm) (hp := hp) hB hr hq t1 t2 t3
  have hs := (famX B W).hs []
  have d0 := fam_dm (F := (xW B W).F) (orc := [])
  refine rd3 raw (fun _ => ⟨0, 0, 0⟩) W [r.v, .agg #[v1, .bool e], pv a l, .agg #[.int .u8 o, v2, .int .u32 nx, .bool hm, .int .u32 m, .bool hp, .int .u32 p, v3]] hs (Go.Cln.VL.cons (.of_flat rfl) (Go.Cln.VL.cons ?_ (Go.Cln.VL.cons (.of_flat rfl) (Go.Cln.VL.cons ?_ Go.Cln.VL.nil))))
  · refine .agg rfl fun i v w hv hw => ?_
    have hv : (pW v1 e).l[i]? = some v := hv
    have hw : ([v1, .bool e] : List Value)[i]? = some w := hw
    rcases i with _ | _ | i
    · cases hv; cases hw; exact .abs d0 rfl (FCv.abs (n := 8) t1)
    · cases hv; cases hw; exact .same rfl
    · cases hv
  · refine .agg rfl fun i v w hv hw => ?_
    have hv : (aW o v2 nx hm m hp p v3).l[i]? = some v := hv
    have hw : ([.int .u8 o, v2, .int .u32 nx, .bool hm, .int .u32 m, .bool hp, .int .u32 p, v3] : List Value)[i]? = some w := hw
    rcases i with _ | _ | _ | _ | _ | _ | _ | _ | i
    · cases hv; cases hw; exact .same rfl
    · cases hv; cases hw; exact .abs d0 rfl (FCv.abs (n := 8) t2)
    · cases hv; cases hw; exact .same rfl
    · cases hv; cases hw; exact .same rfl
    · cases hv; cases hw; exact .same rfl
    · cases hv; cases hw; exact .same rfl
    · cases hv; cases hw; exact .same rfl
    · cases hv; cases hw; exact .abs d0 rfl (FCv.abs (n := 8) t3)
    · cases hv
theorem lawW {W : World} {r : RV} {a l : Int} {v1 : Value} {e : Bool} {o nx m p : Int} {hm hp : Bool} {v2 v3 : Value} (hr : rvOk r) (hq : pvOk a l)
    (z1 : ∀ (j : Nat) (q : FC), POL[j]? = some q → ∃ u : Value, ([v1, .bool e] : List Value)[j]? = some u ∧ FCv W 8 q u)
    (z3 : ∀ (j : Nat) (q : FC), ATT[j]? = some q → ∃ u : Value, ([.int .u8 o, v2, .int .u32 nx, .bool hm, .int .u32 m, .bool hp, .int .u32 p, v3] : List Value)[j]? = some u ∧ FCv W 8 q u) :
    Calls Tryz.prog 3 #[r.v, .agg #[v1, .bool e], pv a l, .agg #[.int .u8 o, v2, .int .u32 nx, .bool hm, .int .u32 m, .bool hp, .int .u32 p, v3]] W fun e w' => e = .returned (.bool true) ∧ Go.RowKit.Below W.heap.size W w' :=
  lawB (Nat.le_refl _) hr hq z1 z3
end
end ob
end Go.Proofs.YthpoeegoankpoaaGreat
