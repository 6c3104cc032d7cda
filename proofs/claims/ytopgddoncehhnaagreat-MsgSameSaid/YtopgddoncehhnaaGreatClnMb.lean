/- Read off the code by the clean reading. -/
import Derived.Test.YtopgddoncehhnaaGreatClnMa
set_option linter.unusedVariables false
set_option linter.unusedSimpArgs false
set_option linter.deprecated false
set_option maxRecDepth 100000
namespace Go.Proofs.YtopgddoncehhnaaGreat
open Go.ChangeShapes Go.WideShapes Go.ChangeAt Go.RowKit Go.Cln
namespace ob
set_option linter.unusedVariables false
noncomputable section
def T1 (x : MX) (f : FuncId) (args : List Value) : Option (Value × Prop) :=
  if f == 77 || f == 79 then (match args with
    | [.slice (some ⟨P, 0, some 1001⟩) n c, .slice (some ⟨Q, 0, some 1001⟩) m d] => some (.bool (rowE x P n Q m), numOk x P n ∧ numOk x Q m)
    | _ => none)
  else if f == 31 || f == 33 then (match args with
    | [.slice (some ⟨P, 0, some 1004⟩) n c, .slice (some ⟨Q, 0, some 1004⟩) m d] => some (.bool (presE x P n Q m), preOk x P n ∧ preOk x Q m)
    | _ => none)
  else if f == 17 then (match args with
    | [.slice (some ⟨P, 0, some 1000⟩) n c, .slice (some ⟨Q, 0, some 1000⟩) m d] => some (.bool (strE x P n Q m), bytOk x P n ∧ bytOk x Q m)
    | _ => none)
  else none
theorem k17 (x : MX) (P n c Q m d : Nat) : ((mk Tryz.prog KN 200).call 17 [PB_ P n c, PB_ Q m d] (smSt 1 [some (.fam x.F)] [])).map (fun r => (r.1, r.2.obl)) = some (.bool (strE x P n Q m), (True ∧ (n = 0 ∨ 0 + n ≤ (x.D P).length)) ∧ (m = 0 ∨ 0 + m ≤ (x.D Q).length)) := by kernel_rfl
theorem rd17 {x : MX} {P n c Q m d : Nat} (hP : bytOk x P n) (hQ : bytOk x Q m) : Rd Tryz.prog x.F 17 [PB_ P n c, PB_ Q m d] (.bool (strE x P n Q m)) :=
  Rd.run pg KN_ok (k17 x P n c Q m d) ⟨⟨trivial, by have := hP.1; omega⟩, by have := hQ.1; omega⟩ rfl
theorem T1_ok (x : MX) (f : FuncId) (args : List Value) (r : Value × Prop) (h : T1 x f args = some r) : flat r.1 = true ∧ args.all farV = true ∧ (r.2 → Rd Tryz.prog x.F f args r.1) := by
  unfold T1 at h
  split at h
  · rename_i hf
    split at h
    · cases h
      refine ⟨rfl, rfl, fun hp => ?_⟩
      have hf : f = 77 ∨ f = 79 := by simpa using hf
      rcases hf with rfl | rfl
      · exact rd77 hp.1 hp.2
      · exact rd79 hp.1 hp.2
    · cases h
  · split at h
    · rename_i _ hf
      split at h
      · cases h
        refine ⟨rfl, rfl, fun hp => ?_⟩
        have hf : f = 31 ∨ f = 33 := by simpa using hf
        rcases hf with rfl | rfl
        · exact rd31 hp.1 hp.2
        · exact rd33 hp.1 hp.2
      · cases h
    · split at h
      · rename_i _ _ hf
        split at h
        · cases h
          refine ⟨rfl, rfl, fun hp => ?_⟩
          have hf : f = 17 := by simpa using hf
          subst hf
          exact rd17 hp.1 hp.2
        · cases h
      · cases h
def K1 (x : MX) : Given := { Given.rds Given.nothing x.F (T1 x) with fits := true }
theorem K1_ok (x : MX) : GivenOk Tryz.prog (K1 x) := frames_fits ((GivenOk.nothing _).rds (T1_ok x)) true
def cv (k : Int) (P n c : Nat) : Value := .agg #[.int .u8 k, PB_ P n c]
def lv (s : Bool) (P n c : Nat) : Value := .agg #[.bool s, PU P n c]
theorem k29t (x : MX) (k l : Int) (P n c Q m d : Nat) : ((mk Tryz.prog (K1 x) 200).call 29 [cv k P n c, cv l Q m d] (smSt 1 [some (.fam x.F)] [some true])).map (fun r => (r.1, r.2.obl)) = some (.bool (strE x P n Q m), (True ∧ (k == l) = true) ∧ (x.F = x.F ∧ bytOk x P n ∧ bytOk x Q m)) := by kernel_rfl
theorem k29f (x : MX) (k l : Int) (P n c Q m d : Nat) : ((mk Tryz.prog (K1 x) 200).call 29 [cv k P n c, cv l Q m d] (smSt 1 [some (.fam x.F)] [some false])).map (fun r => (r.1, r.2.obl)) = some (.bool false, True ∧ (k == l) = false) := by kernel_rfl
theorem k76t (x : MX) (s t : Bool) (P n c Q m d : Nat) : ((mk Tryz.prog (K1 x) 200).call 76 [lv s P n c, lv t Q m d] (smSt 1 [some (.fam x.F)] [some true])).map (fun r => (r.1, r.2.obl)) = some (.bool (rowE x P n Q m), (True ∧ (s == t) = true) ∧ (x.F = x.F ∧ numOk x P n ∧ numOk x Q m)) := by kernel_rfl
theorem k76f (x : MX) (s t : Bool) (P n c Q m d : Nat) : ((mk Tryz.prog (K1 x) 200).call 76 [lv s P n c, lv t Q m d] (smSt 1 [some (.fam x.F)] [some false])).map (fun r => (r.1, r.2.obl)) = some (.bool false, True ∧ (s == t) = false) := by kernel_rfl
theorem rd29 {x : MX} {k l : Int} {P n c Q m d : Nat} (hP : bytOk x P n) (hQ : bytOk x Q m) : Rd Tryz.prog x.F 29 [cv k P n c, cv l Q m d] (.bool ((k == l) && strE x P n Q m)) := by
  cases h : (k == l) with
  | true => exact Rd.run pg (K1_ok x) (k29t x k l P n c Q m d) ⟨⟨trivial, h⟩, rfl, hP, hQ⟩ rfl
  | false => exact Rd.run pg (K1_ok x) (k29f x k l P n c Q m d) ⟨trivial, h⟩ rfl
theorem rd76 {x : MX} {s t : Bool} {P n c Q m d : Nat} (hP : numOk x P n) (hQ : numOk x Q m) : Rd Tryz.prog x.F 76 [lv s P n c, lv t Q m d] (.bool ((s == t) && rowE x P n Q m)) := by
  cases h : (s == t) with
  | true => exact Rd.run pg (K1_ok x) (k76t x s t P n c Q m d) ⟨⟨trivial, h⟩, rfl, hP, hQ⟩ rfl
  | false => exact Rd.run pg (K1_ok x) (k76f x s t P n c Q m d) ⟨trivial, h⟩ rfl
def T2 (x : MX) (f : FuncId) (args : List Value) : Option (Value × Prop) :=
  if f == 29 then (match args with
    | [.agg a, .agg b] => (match a.toList, b.toList with
      | [.int .u8 k, .slice (some ⟨P, 0, some 1000⟩) n c], [.int .u8 l, .slice (some ⟨Q, 0, some 1000⟩) m d] => some (.bool ((k == l) && strE x P n Q m), bytOk x P n ∧ bytOk x Q m)
      | _, _ => none)
    | _ => none)
  else if f == 76 then (match args with
    | [.agg a, .agg b] => (match a.toList, b.toList with
      | [.bool s, .slice (some ⟨P, 0, some 1001⟩) n c], [.bool t, .slice (some ⟨Q, 0, some 1001⟩) m d] => some (.bool ((s == t) && rowE x P n Q m), numOk x P n ∧ numOk x Q m)
      | _, _ => none)
    | _ => none)
  else T1 x f args
theorem agg_eq {a : Array Value} {l : List Value} (h : a.toList = l) : a = l.toArray := by rw [← h]
theorem T2_ok (x : MX) (f : FuncId) (args : List Value) (r : Value × Prop) (h : T2 x f args = some r) : flat r.1 = true ∧ args.all farV = true ∧ (r.2 → Rd Tryz.prog x.F f args r.1) := by
  unfold T2 at h
  split at h
  · rename_i hf
    have hf : f = 29 := by simpa using hf
    subst hf
    split at h
    · split at h
      · rename_i a b k P n c l Q m d ha hb
        cases h
        have ea := agg_eq ha
        have eb := agg_eq hb
        subst ea
        subst eb
        exact ⟨rfl, rfl, fun hp => rd29 hp.1 hp.2⟩
      · cases h
    · cases h
  · split at h
    · rename_i _ hf
      have hf : f = 76 := by simpa using hf
      subst hf
      split at h
      · split at h
        · rename_i a b k P n c l Q m d ha hb
          cases h
          have ea := agg_eq ha
          have eb := agg_eq hb
          subst ea
          subst eb
          exact ⟨rfl, rfl, fun hp => rd76 hp.1 hp.2⟩
        · cases h
      · cases h
    · exact T1_ok x f args r h
def K2 (x : MX) : Given := { Given.rds Given.nothing x.F (T2 x) with fits := true }
theorem K2_ok (x : MX) : GivenOk Tryz.prog (K2 x) := frames_fits ((GivenOk.nothing _).rds (T2_ok x)) true
end
end ob
end Go.Proofs.YtopgddoncehhnaaGreat
namespace Go.Proofs.YtopgddoncehhnaaGreat
open Go.ChangeShapes Go.WideShapes Go.ChangeAt Go.RowKit Go.Cln
namespace ob
set_option linter.unusedVariables false
noncomputable section
def b30 : Code := ((Tryz.prog.funcs[30]?).bind (·.body)).getD .skip
def l30 : Code := loopB Tryz.prog 30 0
def e30 : Code := dropC 3 b30
theorem fn30 : (Tryz.prog.funcs[30]?).map (fun f => (f.body, f.results.toList, f.ntmps)) = some (some b30, [.tmp 6], 32) := by kernel_rfl
noncomputable abbrev a30 (P n c Q m d : Nat) : List Value := [PC P n c, PC Q m d, .func (.func 29) #[] #[]]
noncomputable def z30 (x : MX) (P n c Q m d : Nat) : St := { smSt 1 [some (.fam x.F)] [] with tmps := a30 P n c Q m d ++ List.replicate (32 - (a30 P n c Q m d).length) undef, defers := [] }
noncomputable def tm30 (v : VF) (P n c Q m d : Nat) (i : Nat) : List Value := (PC P n c :: PC Q m d :: .func (.func 29) #[] #[] :: vs v 3 12 (PC P n c :: .int .i64 (nI n) :: .int .i64 (nI i) :: vs v 18 14 []))
theorem tm30_dead {v : VF} {P n c Q m d : Nat} {i : Nat} {B : Nat → Bool} (h : ∀ i, DeadV (v i)) (hB : ∀ i, ((Nat.ble 0 i && Nat.ble i 2) || (Nat.ble 15 i && Nat.ble i 17)) = true → B i = true) : deadT B 0 (tm30 v P n c Q m d i) :=
  ⟨fun e => absurd e (by rw [hB 0 rfl]; decide), ⟨fun e => absurd e (by rw [hB 1 rfl]; decide), ⟨fun e => absurd e (by rw [hB 2 rfl]; decide), deadT_vs h 12 (⟨fun e => absurd e (by rw [hB 15 rfl]; decide), ⟨fun e => absurd e (by rw [hB 16 rfl]; decide), ⟨fun e => absurd e (by rw [hB 17 rfl]; decide), deadT_vs h 14 (trivial)⟩⟩⟩)⟩⟩⟩
noncomputable def h30 (x : MX) (P n c Q m d : Nat) : Nat → Option Ob := fun i => match i with
  | 0 => some (.fam x.F)
  | _ => none
theorem h30_ok (x : MX) (P n c Q m d : Nat) : Go.Cln.RowsIn (h30 x P n c Q m d) := by
  intro b n' w' g' t h
  unfold h30 at h
  split at h <;> first | (cases h; done) | cases h
noncomputable def s30 (x : MX) (P n c Q m d : Nat) (i : Nat) (v : VF) : St := ⟨tm30 v P n c Q m d i, [], Tr.rebuild (h30 x P n c Q m d) 1, 1, 1, [], fun _ => false, True, []⟩
def go30 (K : Given) (c : Code) (s : St) (o : List (Option Bool)) : Option (Exit × St) := (mk Tryz.prog K 200).code 30 none c { s with obl := True, orc := o }
def gd30 (K : Given) (s : St) (o : List (Option Bool)) : Option (St × Code) := down (mk Tryz.prog K 200) 30 none [2, 2, 3, 2, 0] b30 { s with obl := True, orc := o }
def WD30 (i : Nat) : Bool := Nat.beq i 6 || (Nat.ble 10 i && Nat.ble i 14)
noncomputable def VD30 (v : VF) : VF := fun i => match WD30 i with
  | true => junk
  | false => v i
def BD30 (i : Nat) : Bool := ((Nat.ble 0 i && Nat.ble i 2) || (Nat.ble 15 i && Nat.ble i 17)) || WD30 i
theorem VD30_dead {v : VF} (h : ∀ i, DeadV (v i)) (i : Nat) : DeadV (VD30 v i) := by
  unfold VD30
  split
  · exact DeadV.junk
  · exact h i
theorem lvD30 (i : Nat) (h : ((Nat.ble 0 i && Nat.ble i 2) || (Nat.ble 15 i && Nat.ble i 17)) = true) : BD30 i = true := by
  unfold BD30
  simp only [Bool.or_eq_true] at h ⊢
  exact .inl h
def WR30 (i : Nat) : Bool := (Nat.ble 7 i && Nat.ble i 9) || (Nat.ble 18 i && Nat.ble i 20) || (Nat.ble 22 i && Nat.ble i 24) || Nat.beq i 26 || (Nat.ble 29 i && Nat.ble i 31)
noncomputable def VR30 (v : VF) : VF := fun i => match Nat.beq i 21 with
  | true => .agg #[junk, junk]
  | false => match Nat.beq i 25 with
  | true => .agg #[junk, junk]
  | false => match Nat.beq i 27 with
  | true => .agg #[junk, junk]
  | false => match Nat.beq i 28 with
  | true => .agg #[junk, junk]
  | false => match WR30 i with
  | true => junk
  | false => v i
def BR30 (i : Nat) : Bool := ((Nat.ble 0 i && Nat.ble i 2) || (Nat.ble 15 i && Nat.ble i 17)) || WR30 i || Nat.beq i 21 || Nat.beq i 25 || Nat.beq i 27 || Nat.beq i 28
theorem VR30_dead {v : VF} (h : ∀ i, DeadV (v i)) (i : Nat) : DeadV (VR30 v i) := by
  unfold VR30
  split
  · exact ⟨rfl, fun _ => rfl, fun _ => rfl⟩
  split
  · exact ⟨rfl, fun _ => rfl, fun _ => rfl⟩
  split
  · exact ⟨rfl, fun _ => rfl, fun _ => rfl⟩
  split
  · exact ⟨rfl, fun _ => rfl, fun _ => rfl⟩
  split
  · exact DeadV.junk
  · exact h i
theorem lvR30 (i : Nat) (h : ((Nat.ble 0 i && Nat.ble i 2) || (Nat.ble 15 i && Nat.ble i 17)) = true) : BR30 i = true := by
  unfold BR30
  simp only [Bool.or_eq_true] at h ⊢
  refine .inl ?_
  refine .inl ?_
  refine .inl ?_
  refine .inl ?_
  exact .inl h
def WX30 (i : Nat) : Bool := Nat.beq i 18
noncomputable def VX30 (v : VF) : VF := fun i => match WX30 i with
  | true => junk
  | false => v i
def BX30 (i : Nat) : Bool := ((Nat.ble 0 i && Nat.ble i 2) || (Nat.ble 15 i && Nat.ble i 17)) || WX30 i
theorem VX30_dead {v : VF} (h : ∀ i, DeadV (v i)) (i : Nat) : DeadV (VX30 v i) := by
  unfold VX30
  split
  · exact DeadV.junk
  · exact h i
theorem lvX30 (i : Nat) (h : ((Nat.ble 0 i && Nat.ble i 2) || (Nat.ble 15 i && Nat.ble i 17)) = true) : BX30 i = true := by
  unfold BX30
  simp only [Bool.or_eq_true] at h ⊢
  exact .inl h
def pD_30 (x : MX) (P n c Q m d : Nat) (i : Nat) : Prop := (True ∧ (nI n != nI m) = false)
def pR_30 (x : MX) (P n c Q m d : Nat) (i : Nat) : Prop := ((((((((True ∧ decide (nI i < nI n) = true) ∧ (0 ≤ nI i ∧ nI i < nI n)) ∧ ((0 + i * 2) % 2 = 0 ∧ (0 + i * 2) / 2 < x.CN P)) ∧ (0 ≤ nI i ∧ nI i < nI m)) ∧ ((0 + i * 2) % 2 = 0 ∧ (0 + i * 2) / 2 < x.CN Q)) ∧ (x.F = x.F ∧ bytOk x (x.CQ P (ix2 i)) (x.CM P (ix2 i)) ∧ bytOk x (x.CQ Q (ix2 i)) (x.CM Q (ix2 i)))) ∧ (!(capE x P Q i)) = false) ∧ IntKind.i64.wrap (nI i + 1) = nI i + 1)
def pN0_30 (x : MX) (P n c Q m d : Nat) (i : Nat) : Prop := (True ∧ (nI n != nI m) = true)
def pF0_30 (x : MX) (P n c Q m d : Nat) (i : Nat) : Prop := (((((((True ∧ decide (nI i < nI n) = true) ∧ (0 ≤ nI i ∧ nI i < nI n)) ∧ ((0 + i * 2) % 2 = 0 ∧ (0 + i * 2) / 2 < x.CN P)) ∧ (0 ≤ nI i ∧ nI i < nI m)) ∧ ((0 + i * 2) % 2 = 0 ∧ (0 + i * 2) / 2 < x.CN Q)) ∧ (x.F = x.F ∧ bytOk x (x.CQ P (ix2 i)) (x.CM P (ix2 i)) ∧ bytOk x (x.CQ Q (ix2 i)) (x.CM Q (ix2 i)))) ∧ (!(capE x P Q i)) = true)
theorem kD30 (x : MX) (P n c Q m d : Nat) : (gd30 (K2 x) (z30 x P n c Q m d) [some false]).map (fun r => (r.2, r.1.obl, seenInT BD30 r.1 (s30 x P n c Q m d 0 (VD30 vU)) [0])) = some (.loop l30, pD_30 x P n c Q m d 0, seenAsT BD30 (s30 x P n c Q m d 0 (VD30 vU)) [0] 1) := by kernel_rfl
theorem kN0_30 (x : MX) (P n c Q m d : Nat) : ((mk Tryz.prog (K2 x) 200).call 30 (a30 P n c Q m d) (smSt 1 [some (.fam x.F)] [some true])).map (fun r => (r.1, r.2.obl)) = some (.bool false, pN0_30 x P n c Q m d 0) := by kernel_rfl
theorem kR30 (x : MX) (P n c Q m d : Nat) (i : Nat) (v : VF) : (go30 (K2 x) l30 (s30 x P n c Q m d i v) [some true, some true, some false, some true, some true, some false, some true, some false, some true]).map (fun r => (r.1, r.2.obl, seenInT BR30 r.2 (s30 x P n c Q m d (i + 1) (VR30 v)) [0])) = some (.normal, pR_30 x P n c Q m d i, seenAsT BR30 (s30 x P n c Q m d (i + 1) (VR30 v)) [0] 3) := by kernel_rfl
theorem kX30 (x : MX) (P n c Q m d : Nat) (i : Nat) (v : VF) : (go30 (K2 x) l30 (s30 x P n c Q m d i v) [some false]).map (fun r => (r.1, r.2.obl, seenInT BX30 r.2 (s30 x P n c Q m d i (VX30 v)) [0])) = some (.exit 0, True ∧ decide (nI i < nI n) = false, seenAsT BX30 (s30 x P n c Q m d i (VX30 v)) [0] 1) := by kernel_rfl
theorem kF0_30 (x : MX) (P n c Q m d : Nat) (i : Nat) (v : VF) : (go30 (K2 x) l30 (s30 x P n c Q m d i v) [some true, some true, some false, some true, some true, some false, some true, some true]).bind (fun r => (results1 Tryz.prog r.2 [.tmp 6]).map fun q => (r.1, q.2.obl, r.2.defers, oneOf q.1)) = some (.ret, pF0_30 x P n c Q m d i, [], .bool false) := by kernel_rfl
theorem kE30 (x : MX) (P n c Q m d : Nat) (i : Nat) (v : VF) : (go30 (K2 x) e30 (s30 x P n c Q m d i v) []).bind (fun r => (results1 Tryz.prog r.2 [.tmp 6]).map fun q => (r.1, q.2.obl, r.2.defers, oneOf q.1)) = some (.ret, True, [], .bool true) := by kernel_rfl
theorem okD30 (x : MX) (P n c Q m d : Nat) (i : Nat) (v : VF) : picOkT BD30 (z30 x P n c Q m d) (s30 x P n c Q m d i (VD30 v)) [0] = true := by kernel_rfl
theorem okR30 (x : MX) (P n c Q m d : Nat) (i : Nat) (v : VF) : picOkT BR30 (z30 x P n c Q m d) (s30 x P n c Q m d i (VR30 v)) [0] = true := by kernel_rfl
theorem okX30 (x : MX) (P n c Q m d : Nat) (i : Nat) (v : VF) : picOkT BX30 (z30 x P n c Q m d) (s30 x P n c Q m d i (VX30 v)) [0] = true := by kernel_rfl
theorem up30 (x : MX) (P n c Q m d : Nat) (Q_ : Exit → St → Prop) : upQ Tryz.prog none (z30 x P n c Q m d) [2, 2, 3, 2, 0] b30 Q_ = fun e s => (fun e s => (e = .normal ∧ StepG Tryz.prog none (z30 x P n c Q m d) e30 s Q_) ∨ (e ≠ .normal ∧ Q_ e s)) (blockOut 0 e) s := by kernel_rfl
theorem rd30 {x : MX} {P n c Q m d : Nat} (hP : capOk x P n) (hQ : capOk x Q m) : Rd Tryz.prog x.F 30 (a30 P n c Q m d) (.bool (capsE x P n Q m)) := by
  by_cases hnm : n = m
  rotate_left
  · rw [show capsE x P n Q m = false by unfold capsE; rw [beq_ne hnm]; rfl]
    exact Rd.run pg (K2_ok x) (kN0_30 x P n c Q m d) ⟨trivial, by simp [nI]; omega⟩ rfl
  subst hnm
  rw [show capsE x P n Q n = allB (capE x P Q) n by unfold capsE; rw [beq_self n]; rfl]
  obtain ⟨p1, p2, p3⟩ := hP
  obtain ⟨q1, q2, q3⟩ := hQ
  refine cmp_rd (way := [2, 2, 3, 2, 0]) (pic := fun i v => s30 x P n c Q n d i v) (e := capE x P Q) (N := n) (v0 := VD30 vU) (s0 := z30 x P n c Q n d) rfl fn30 (fun Q_ h => StepG.downs pg (K2_ok x) (kD30 x P n c Q n d) ⟨trivial, by simp⟩ (tm30_dead (VD30_dead vU_dead) lvD30) (h30_ok x P n c Q n d) rfl (okD30 x P n c Q n d 0 vU) h) (up30 x P n c Q n d) (fun i v hv hi he => ?_) (fun i v hv hi he => ?_) (fun v hv => ?_) (fun v hv => ?_) (VD30_dead vU_dead)
  · refine (StepG.stdT (s0 := z30 x P n c Q n d) (rd := none) pg (K2_ok x) (kR30 x P n c Q n d i v) ?_ (show 1 ≤ 1 by decide) (tm30_dead (VR30_dead hv) lvR30) (h30_ok x P n c Q n d) rfl (okR30 x P n c Q n d (i + 1) v)).mono ?_
    · exact ⟨⟨⟨⟨⟨⟨⟨⟨trivial, decide_eq_true (by unfold nI; omega)⟩, by unfold nI; omega⟩, by omega, by omega⟩, by unfold nI; omega⟩, by omega, by omega⟩, rfl, by rw [ix2_eq]; exact p3 i hi, by rw [ix2_eq]; exact q3 i hi⟩, by rw [he]; rfl⟩, by rw [IntKind.wrap_i64]; unfold nI; omega⟩
    · rintro ex s_ ⟨rfl, rfl⟩
      exact ⟨rfl, _, VR30_dead hv, rfl⟩
  · exact StepG.ranV (s0 := z30 x P n c Q n d) (rd := none) pg (K2_ok x) (kF0_30 x P n c Q n d i v) ⟨⟨⟨⟨⟨⟨⟨trivial, decide_eq_true (by unfold nI; omega)⟩, by unfold nI; omega⟩, by omega, by omega⟩, by unfold nI; omega⟩, by omega, by omega⟩, rfl, by rw [ix2_eq]; exact p3 i hi, by rw [ix2_eq]; exact q3 i hi⟩, by rw [he]; rfl⟩ (show 1 ≤ 1 by decide)
  · refine (StepG.stdT (s0 := z30 x P n c Q n d) (rd := none) pg (K2_ok x) (kX30 x P n c Q n d n v) ⟨trivial, decide_eq_false (by omega)⟩ (show 1 ≤ 1 by decide) (tm30_dead (VX30_dead hv) lvX30) (h30_ok x P n c Q n d) rfl (okX30 x P n c Q n d n v)).mono ?_
    rintro ex s_ ⟨rfl, rfl⟩
    exact ⟨rfl, _, VX30_dead hv, rfl⟩
  · exact StepG.ranV pg (K2_ok x) (kE30 x P n c Q n d n v) trivial (show 1 ≤ 1 by decide)
def b78 : Code := ((Tryz.prog.funcs[78]?).bind (·.body)).getD .skip
def l78 : Code := loopB Tryz.prog 78 0
def e78 : Code := dropC 3 b78
theorem fn78 : (Tryz.prog.funcs[78]?).map (fun f => (f.body, f.results.toList, f.ntmps)) = some (some b78, [.tmp 6], 32) := by kernel_rfl
noncomputable abbrev a78 (P n c Q m d : Nat) : List Value := [PLg P n c, PLg Q m d, .func (.func 76) #[] #[]]
noncomputable def z78 (x : MX) (P n c Q m d : Nat) : St := { smSt 1 [some (.fam x.F)] [] with tmps := a78 P n c Q m d ++ List.replicate (32 - (a78 P n c Q m d).length) undef, defers := [] }
noncomputable def tm78 (v : VF) (P n c Q m d : Nat) (i : Nat) : List Value := (PLg P n c :: PLg Q m d :: .func (.func 76) #[] #[] :: vs v 3 12 (PLg P n c :: .int .i64 (nI n) :: .int .i64 (nI i) :: vs v 18 14 []))
theorem tm78_dead {v : VF} {P n c Q m d : Nat} {i : Nat} {B : Nat → Bool} (h : ∀ i, DeadV (v i)) (hB : ∀ i, ((Nat.ble 0 i && Nat.ble i 2) || (Nat.ble 15 i && Nat.ble i 17)) = true → B i = true) : deadT B 0 (tm78 v P n c Q m d i) :=
  ⟨fun e => absurd e (by rw [hB 0 rfl]; decide), ⟨fun e => absurd e (by rw [hB 1 rfl]; decide), ⟨fun e => absurd e (by rw [hB 2 rfl]; decide), deadT_vs h 12 (⟨fun e => absurd e (by rw [hB 15 rfl]; decide), ⟨fun e => absurd e (by rw [hB 16 rfl]; decide), ⟨fun e => absurd e (by rw [hB 17 rfl]; decide), deadT_vs h 14 (trivial)⟩⟩⟩)⟩⟩⟩
noncomputable def h78 (x : MX) (P n c Q m d : Nat) : Nat → Option Ob := fun i => match i with
  | 0 => some (.fam x.F)
  | _ => none
theorem h78_ok (x : MX) (P n c Q m d : Nat) : Go.Cln.RowsIn (h78 x P n c Q m d) := by
  intro b n' w' g' t h
  unfold h78 at h
  split at h <;> first | (cases h; done) | cases h
noncomputable def s78 (x : MX) (P n c Q m d : Nat) (i : Nat) (v : VF) : St := ⟨tm78 v P n c Q m d i, [], Tr.rebuild (h78 x P n c Q m d) 1, 1, 1, [], fun _ => false, True, []⟩
def go78 (K : Given) (c : Code) (s : St) (o : List (Option Bool)) : Option (Exit × St) := (mk Tryz.prog K 200).code 78 none c { s with obl := True, orc := o }
def gd78 (K : Given) (s : St) (o : List (Option Bool)) : Option (St × Code) := down (mk Tryz.prog K 200) 78 none [2, 2, 3, 2, 0] b78 { s with obl := True, orc := o }
def WD78 (i : Nat) : Bool := Nat.beq i 6 || (Nat.ble 10 i && Nat.ble i 14)
noncomputable def VD78 (v : VF) : VF := fun i => match WD78 i with
  | true => junk
  | false => v i
def BD78 (i : Nat) : Bool := ((Nat.ble 0 i && Nat.ble i 2) || (Nat.ble 15 i && Nat.ble i 17)) || WD78 i
theorem VD78_dead {v : VF} (h : ∀ i, DeadV (v i)) (i : Nat) : DeadV (VD78 v i) := by
  unfold VD78
  split
  · exact DeadV.junk
  · exact h i
theorem lvD78 (i : Nat) (h : ((Nat.ble 0 i && Nat.ble i 2) || (Nat.ble 15 i && Nat.ble i 17)) = true) : BD78 i = true := by
  unfold BD78
  simp only [Bool.or_eq_true] at h ⊢
  exact .inl h
def WR78 (i : Nat) : Bool := (Nat.ble 7 i && Nat.ble i 9) || (Nat.ble 18 i && Nat.ble i 20) || (Nat.ble 22 i && Nat.ble i 24) || Nat.beq i 26 || (Nat.ble 29 i && Nat.ble i 31)
noncomputable def VR78 (v : VF) : VF := fun i => match Nat.beq i 21 with
  | true => .agg #[junk, junk]
  | false => match Nat.beq i 25 with
  | true => .agg #[junk, junk]
  | false => match Nat.beq i 27 with
  | true => .agg #[junk, junk]
  | false => match Nat.beq i 28 with
  | true => .agg #[junk, junk]
  | false => match WR78 i with
  | true => junk
  | false => v i
def BR78 (i : Nat) : Bool := ((Nat.ble 0 i && Nat.ble i 2) || (Nat.ble 15 i && Nat.ble i 17)) || WR78 i || Nat.beq i 21 || Nat.beq i 25 || Nat.beq i 27 || Nat.beq i 28
theorem VR78_dead {v : VF} (h : ∀ i, DeadV (v i)) (i : Nat) : DeadV (VR78 v i) := by
  unfold VR78
  split
  · exact ⟨rfl, fun _ => rfl, fun _ => rfl⟩
  split
  · exact ⟨rfl, fun _ => rfl, fun _ => rfl⟩
  split
  · exact ⟨rfl, fun _ => rfl, fun _ => rfl⟩
  split
  · exact ⟨rfl, fun _ => rfl, fun _ => rfl⟩
  split
  · exact DeadV.junk
  · exact h i
theorem lvR78 (i : Nat) (h : ((Nat.ble 0 i && Nat.ble i 2) || (Nat.ble 15 i && Nat.ble i 17)) = true) : BR78 i = true := by
  unfold BR78
  simp only [Bool.or_eq_true] at h ⊢
  refine .inl ?_
  refine .inl ?_
  refine .inl ?_
  refine .inl ?_
  exact .inl h
def WX78 (i : Nat) : Bool := Nat.beq i 18
noncomputable def VX78 (v : VF) : VF := fun i => match WX78 i with
  | true => junk
  | false => v i
def BX78 (i : Nat) : Bool := ((Nat.ble 0 i && Nat.ble i 2) || (Nat.ble 15 i && Nat.ble i 17)) || WX78 i
theorem VX78_dead {v : VF} (h : ∀ i, DeadV (v i)) (i : Nat) : DeadV (VX78 v i) := by
  unfold VX78
  split
  · exact DeadV.junk
  · exact h i
theorem lvX78 (i : Nat) (h : ((Nat.ble 0 i && Nat.ble i 2) || (Nat.ble 15 i && Nat.ble i 17)) = true) : BX78 i = true := by
  unfold BX78
  simp only [Bool.or_eq_true] at h ⊢
  exact .inl h
def pD_78 (x : MX) (P n c Q m d : Nat) (i : Nat) : Prop := (True ∧ (nI n != nI m) = false)
def pR_78 (x : MX) (P n c Q m d : Nat) (i : Nat) : Prop := ((((((((True ∧ decide (nI i < nI n) = true) ∧ (0 ≤ nI i ∧ nI i < nI n)) ∧ ((0 + i * 2) % 2 = 0 ∧ (0 + i * 2) / 2 < x.LN P)) ∧ (0 ≤ nI i ∧ nI i < nI m)) ∧ ((0 + i * 2) % 2 = 0 ∧ (0 + i * 2) / 2 < x.LN Q)) ∧ (x.F = x.F ∧ numOk x (x.LQ P (ix2 i)) (x.LM P (ix2 i)) ∧ numOk x (x.LQ Q (ix2 i)) (x.LM Q (ix2 i)))) ∧ (!(legE x P Q i)) = false) ∧ IntKind.i64.wrap (nI i + 1) = nI i + 1)
def pN0_78 (x : MX) (P n c Q m d : Nat) (i : Nat) : Prop := (True ∧ (nI n != nI m) = true)
def pF0_78 (x : MX) (P n c Q m d : Nat) (i : Nat) : Prop := (((((((True ∧ decide (nI i < nI n) = true) ∧ (0 ≤ nI i ∧ nI i < nI n)) ∧ ((0 + i * 2) % 2 = 0 ∧ (0 + i * 2) / 2 < x.LN P)) ∧ (0 ≤ nI i ∧ nI i < nI m)) ∧ ((0 + i * 2) % 2 = 0 ∧ (0 + i * 2) / 2 < x.LN Q)) ∧ (x.F = x.F ∧ numOk x (x.LQ P (ix2 i)) (x.LM P (ix2 i)) ∧ numOk x (x.LQ Q (ix2 i)) (x.LM Q (ix2 i)))) ∧ (!(legE x P Q i)) = true)
theorem kD78 (x : MX) (P n c Q m d : Nat) : (gd78 (K2 x) (z78 x P n c Q m d) [some false]).map (fun r => (r.2, r.1.obl, seenInT BD78 r.1 (s78 x P n c Q m d 0 (VD78 vU)) [0])) = some (.loop l78, pD_78 x P n c Q m d 0, seenAsT BD78 (s78 x P n c Q m d 0 (VD78 vU)) [0] 1) := by kernel_rfl
theorem kN0_78 (x : MX) (P n c Q m d : Nat) : ((mk Tryz.prog (K2 x) 200).call 78 (a78 P n c Q m d) (smSt 1 [some (.fam x.F)] [some true])).map (fun r => (r.1, r.2.obl)) = some (.bool false, pN0_78 x P n c Q m d 0) := by kernel_rfl
theorem kR78 (x : MX) (P n c Q m d : Nat) (i : Nat) (v : VF) : (go78 (K2 x) l78 (s78 x P n c Q m d i v) [some true, some true, some false, some true, some true, some false, some true, some false, some true]).map (fun r => (r.1, r.2.obl, seenInT BR78 r.2 (s78 x P n c Q m d (i + 1) (VR78 v)) [0])) = some (.normal, pR_78 x P n c Q m d i, seenAsT BR78 (s78 x P n c Q m d (i + 1) (VR78 v)) [0] 3) := by kernel_rfl
theorem kX78 (x : MX) (P n c Q m d : Nat) (i : Nat) (v : VF) : (go78 (K2 x) l78 (s78 x P n c Q m d i v) [some false]).map (fun r => (r.1, r.2.obl, seenInT BX78 r.2 (s78 x P n c Q m d i (VX78 v)) [0])) = some (.exit 0, True ∧ decide (nI i < nI n) = false, seenAsT BX78 (s78 x P n c Q m d i (VX78 v)) [0] 1) := by kernel_rfl
theorem kF0_78 (x : MX) (P n c Q m d : Nat) (i : Nat) (v : VF) : (go78 (K2 x) l78 (s78 x P n c Q m d i v) [some true, some true, some false, some true, some true, some false, some true, some true]).bind (fun r => (results1 Tryz.prog r.2 [.tmp 6]).map fun q => (r.1, q.2.obl, r.2.defers, oneOf q.1)) = some (.ret, pF0_78 x P n c Q m d i, [], .bool false) := by kernel_rfl
theorem kE78 (x : MX) (P n c Q m d : Nat) (i : Nat) (v : VF) : (go78 (K2 x) e78 (s78 x P n c Q m d i v) []).bind (fun r => (results1 Tryz.prog r.2 [.tmp 6]).map fun q => (r.1, q.2.obl, r.2.defers, oneOf q.1)) = some (.ret, True, [], .bool true) := by kernel_rfl
theorem okD78 (x : MX) (P n c Q m d : Nat) (i : Nat) (v : VF) : picOkT BD78 (z78 x P n c Q m d) (s78 x P n c Q m d i (VD78 v)) [0] = true := by kernel_rfl
theorem okR78 (x : MX) (P n c Q m d : Nat) (i : Nat) (v : VF) : picOkT BR78 (z78 x P n c Q m d) (s78 x P n c Q m d i (VR78 v)) [0] = true := by kernel_rfl
theorem okX78 (x : MX) (P n c Q m d : Nat) (i : Nat) (v : VF) : picOkT BX78 (z78 x P n c Q m d) (s78 x P n c Q m d i (VX78 v)) [0] = true := by kernel_rfl
theorem up78 (x : MX) (P n c Q m d : Nat) (Q_ : Exit → St → Prop) : upQ Tryz.prog none (z78 x P n c Q m d) [2, 2, 3, 2, 0] b78 Q_ = fun e s => (fun e s => (e = .normal ∧ StepG Tryz.prog none (z78 x P n c Q m d) e78 s Q_) ∨ (e ≠ .normal ∧ Q_ e s)) (blockOut 0 e) s := by kernel_rfl
theorem rd78 {x : MX} {P n c Q m d : Nat} (hP : legOk x P n) (hQ : legOk x Q m) : Rd Tryz.prog x.F 78 (a78 P n c Q m d) (.bool (legsE x P n Q m)) := by
  by_cases hnm : n = m
  rotate_left
  · rw [show legsE x P n Q m = false by unfold legsE; rw [beq_ne hnm]; rfl]
    exact Rd.run pg (K2_ok x) (kN0_78 x P n c Q m d) ⟨trivial, by simp [nI]; omega⟩ rfl
  subst hnm
  rw [show legsE x P n Q n = allB (legE x P Q) n by unfold legsE; rw [beq_self n]; rfl]
  obtain ⟨p1, p2, p3⟩ := hP
  obtain ⟨q1, q2, q3⟩ := hQ
  refine cmp_rd (way := [2, 2, 3, 2, 0]) (pic := fun i v => s78 x P n c Q n d i v) (e := legE x P Q) (N := n) (v0 := VD78 vU) (s0 := z78 x P n c Q n d) rfl fn78 (fun Q_ h => StepG.downs pg (K2_ok x) (kD78 x P n c Q n d) ⟨trivial, by simp⟩ (tm78_dead (VD78_dead vU_dead) lvD78) (h78_ok x P n c Q n d) rfl (okD78 x P n c Q n d 0 vU) h) (up78 x P n c Q n d) (fun i v hv hi he => ?_) (fun i v hv hi he => ?_) (fun v hv => ?_) (fun v hv => ?_) (VD78_dead vU_dead)
  · refine (StepG.stdT (s0 := z78 x P n c Q n d) (rd := none) pg (K2_ok x) (kR78 x P n c Q n d i v) ?_ (show 1 ≤ 1 by decide) (tm78_dead (VR78_dead hv) lvR78) (h78_ok x P n c Q n d) rfl (okR78 x P n c Q n d (i + 1) v)).mono ?_
    · exact ⟨⟨⟨⟨⟨⟨⟨⟨trivial, decide_eq_true (by unfold nI; omega)⟩, by unfold nI; omega⟩, by omega, by omega⟩, by unfold nI; omega⟩, by omega, by omega⟩, rfl, by rw [ix2_eq]; exact p3 i hi, by rw [ix2_eq]; exact q3 i hi⟩, by rw [he]; rfl⟩, by rw [IntKind.wrap_i64]; unfold nI; omega⟩
    · rintro ex s_ ⟨rfl, rfl⟩
      exact ⟨rfl, _, VR78_dead hv, rfl⟩
  · exact StepG.ranV (s0 := z78 x P n c Q n d) (rd := none) pg (K2_ok x) (kF0_78 x P n c Q n d i v) ⟨⟨⟨⟨⟨⟨⟨trivial, decide_eq_true (by unfold nI; omega)⟩, by unfold nI; omega⟩, by omega, by omega⟩, by unfold nI; omega⟩, by omega, by omega⟩, rfl, by rw [ix2_eq]; exact p3 i hi, by rw [ix2_eq]; exact q3 i hi⟩, by rw [he]; rfl⟩ (show 1 ≤ 1 by decide)
  · refine (StepG.stdT (s0 := z78 x P n c Q n d) (rd := none) pg (K2_ok x) (kX78 x P n c Q n d n v) ⟨trivial, decide_eq_false (by omega)⟩ (show 1 ≤ 1 by decide) (tm78_dead (VX78_dead hv) lvX78) (h78_ok x P n c Q n d) rfl (okX78 x P n c Q n d n v)).mono ?_
    rintro ex s_ ⟨rfl, rfl⟩
    exact ⟨rfl, _, VX78_dead hv, rfl⟩
  · exact StepG.ranV pg (K2_ok x) (kE78 x P n c Q n d n v) trivial (show 1 ≤ 1 by decide)
end
end ob
end Go.Proofs.YtopgddoncehhnaaGreat
namespace Go.Proofs.YtopgddoncehhnaaGreat
open Go.ChangeShapes Go.WideShapes Go.ChangeAt Go.RowKit Go.Cln
namespace ob
set_option linter.unusedVariables false
noncomputable section
structure OV where
  asn : Int
  hold : Int
  id : Int
  P : Nat
  n : Nat
  c : Nat
structure AV where
  o : Int
  P : Nat
  n : Nat
  c : Nat
  nx : Int
  hm : Bool
  md : Int
  hp : Bool
  pf : Int
  Q : Nat
  m : Nat
  d : Nat
structure MV where
  k : Int
  op : OV
  gP : Nat
  gn : Nat
  gc : Nat
  nP : Nat
  nn : Nat
  nc : Nat
  at_ : AV
  cd : Int
  sb : Int
  dP : Nat
  dn : Nat
  dc : Nat
def OV.l (a : OV) : List Value := [.int .u32 a.asn, .int .u16 a.hold, .int .u32 a.id, PC a.P a.n a.c]
def AV.l (a : AV) : List Value := [.int .u8 a.o, PLg a.P a.n a.c, .int .u32 a.nx, .bool a.hm, .int .u32 a.md, .bool a.hp, .int .u32 a.pf, PU a.Q a.m a.d]
def MV.l (a : MV) : List Value := [.int .i64 a.k, .int .u32 a.op.asn, .int .u16 a.op.hold, .int .u32 a.op.id, PC a.op.P a.op.n a.op.c, PP a.gP a.gn a.gc, PP a.nP a.nn a.nc,
  .int .u8 a.at_.o, PLg a.at_.P a.at_.n a.at_.c, .int .u32 a.at_.nx, .bool a.at_.hm, .int .u32 a.at_.md, .bool a.at_.hp, .int .u32 a.at_.pf, PU a.at_.Q a.at_.m a.at_.d,
  .int .u8 a.cd, .int .u8 a.sb, PB_ a.dP a.dn a.dc]
def OV.v (a : OV) : Value := .agg a.l.toArray
def AV.v (a : AV) : Value := .agg a.l.toArray
def MV.v (a : MV) : Value := .agg a.l.toArray
def openE (x : MX) (a b : OV) : Bool := (a.asn == b.asn) && ((a.hold == b.hold) && ((a.id == b.id) && capsE x a.P a.n b.P b.n))
def attrsE (x : MX) (a b : AV) : Bool := (a.o == b.o) && ((a.nx == b.nx) && ((a.hm == b.hm) && ((a.md == b.md) && ((a.hp == b.hp) && ((a.pf == b.pf) && (legsE x a.P a.n b.P b.n && rowE x a.Q a.m b.Q b.m))))))
def msgE (x : MX) (a b : MV) : Bool := (a.k == b.k) && (openE x a.op b.op && (presE x a.gP a.gn b.gP b.gn && (presE x a.nP a.nn b.nP b.nn && (attrsE x a.at_ b.at_ && ((a.cd == b.cd) && ((a.sb == b.sb) && strE x a.dP a.dn b.dP b.dn))))))
theorem bne_t {α : Type} [BEq α] {a b : α} (h : (a == b) = false) : (a != b) = true := by unfold bne; rw [h]; rfl
theorem bne_f {α : Type} [BEq α] {a b : α} (h : (a == b) = true) : (a != b) = false := by unfold bne; rw [h]; rfl
def ix3 (i : Nat) : Nat := (0 + i * 2 + 1) / 2
theorem ix3_eq (i : Nat) : ix3 i = i := by unfold ix3; omega
def b18 : Code := ((Tryz.prog.funcs[18]?).bind (·.body)).getD .skip
def l18 : Code := loopB Tryz.prog 18 0
def e18 : Code := dropC 3 b18
theorem fn18 : (Tryz.prog.funcs[18]?).map (fun f => (f.body, f.results.toList, f.ntmps)) = some (some b18, [.tmp 4], 71) := by kernel_rfl
noncomputable abbrev a18 (a b : OV) : List Value := [a.v, b.v]
noncomputable def z18 (x : MX) (a b : OV) : St := { smSt 1 [some (.fam x.F)] [] with tmps := a18 a b ++ List.replicate (71 - (a18 a b).length) undef, defers := [] }
noncomputable def tm18 (v : VF) (a b : OV) (i : Nat) : List Value := (a.v :: b.v :: .pointer (some ⟨1, 0, none⟩) :: .pointer (some ⟨2, 0, none⟩) :: v 4 :: .int .i64 (nI i) :: vs v 6 65 [])
theorem tm18_dead {v : VF} {a b : OV} {i : Nat} {B : Nat → Bool} (h : ∀ i, DeadV (v i)) (hB : ∀ i, ((Nat.ble 0 i && Nat.ble i 3) || Nat.beq i 5) = true → B i = true) : deadT B 0 (tm18 v a b i) :=
  ⟨fun e => absurd e (by rw [hB 0 rfl]; decide), ⟨fun e => absurd e (by rw [hB 1 rfl]; decide), ⟨fun e => absurd e (by rw [hB 2 rfl]; decide), ⟨fun e => absurd e (by rw [hB 3 rfl]; decide), ⟨fun _ => h 4, ⟨fun e => absurd e (by rw [hB 5 rfl]; decide), deadT_vs h 65 (trivial)⟩⟩⟩⟩⟩⟩
noncomputable def h18 (x : MX) (a b : OV) : Nat → Option Ob := fun i => match i with
  | 0 => some (.fam x.F)
  | 1 => some (.cells (.lit a.l) 27)
  | 2 => some (.cells (.lit b.l) 27)
  | _ => none
theorem h18_ok (x : MX) (a b : OV) : Go.Cln.RowsIn (h18 x a b) := by
  intro b n' w' g' t h
  unfold h18 at h
  split at h <;> first | (cases h; done) | cases h
noncomputable def s18 (x : MX) (a b : OV) (i : Nat) (v : VF) : St := ⟨tm18 v a b i, [], Tr.rebuild (h18 x a b) 3, 3, 1, [], fun _ => false, True, []⟩
def go18 (K : Given) (c : Code) (s : St) (o : List (Option Bool)) : Option (Exit × St) := (mk Tryz.prog K 200).code 18 none c { s with obl := True, orc := o }
def gd18 (K : Given) (s : St) (o : List (Option Bool)) : Option (St × Code) := down (mk Tryz.prog K 200) 18 none [2, 2, 3, 2, 0] b18 { s with obl := True, orc := o }
def WD18 (i : Nat) : Bool := Nat.beq i 4 || (Nat.ble 6 i && Nat.ble i 33)
noncomputable def VD18 (v : VF) : VF := fun i => match WD18 i with
  | true => junk
  | false => v i
def BD18 (i : Nat) : Bool := ((Nat.ble 0 i && Nat.ble i 3) || Nat.beq i 5) || WD18 i
theorem VD18_dead {v : VF} (h : ∀ i, DeadV (v i)) (i : Nat) : DeadV (VD18 v i) := by
  unfold VD18
  split
  · exact DeadV.junk
  · exact h i
theorem lvD18 (i : Nat) (h : ((Nat.ble 0 i && Nat.ble i 3) || Nat.beq i 5) = true) : BD18 i = true := by
  unfold BD18
  simp only [Bool.or_eq_true] at h ⊢
  exact .inl h
def WR18 (i : Nat) : Bool := (Nat.ble 34 i && Nat.ble i 70)
noncomputable def VR18 (v : VF) : VF := fun i => match WR18 i with
  | true => junk
  | false => v i
def BR18 (i : Nat) : Bool := ((Nat.ble 0 i && Nat.ble i 3) || Nat.beq i 5) || WR18 i
theorem VR18_dead {v : VF} (h : ∀ i, DeadV (v i)) (i : Nat) : DeadV (VR18 v i) := by
  unfold VR18
  split
  · exact DeadV.junk
  · exact h i
theorem lvR18 (i : Nat) (h : ((Nat.ble 0 i && Nat.ble i 3) || Nat.beq i 5) = true) : BR18 i = true := by
  unfold BR18
  simp only [Bool.or_eq_true] at h ⊢
  exact .inl h
def WX18 (i : Nat) : Bool := (Nat.ble 34 i && Nat.ble i 38)
noncomputable def VX18 (v : VF) : VF := fun i => match WX18 i with
  | true => junk
  | false => v i
def BX18 (i : Nat) : Bool := ((Nat.ble 0 i && Nat.ble i 3) || Nat.beq i 5) || WX18 i
theorem VX18_dead {v : VF} (h : ∀ i, DeadV (v i)) (i : Nat) : DeadV (VX18 v i) := by
  unfold VX18
  split
  · exact DeadV.junk
  · exact h i
theorem lvX18 (i : Nat) (h : ((Nat.ble 0 i && Nat.ble i 3) || Nat.beq i 5) = true) : BX18 i = true := by
  unfold BX18
  simp only [Bool.or_eq_true] at h ⊢
  exact .inl h
def b34 : Code := ((Tryz.prog.funcs[34]?).bind (·.body)).getD .skip
def l34 : Code := loopB Tryz.prog 34 0
def e34 : Code := dropC 3 b34
theorem fn34 : (Tryz.prog.funcs[34]?).map (fun f => (f.body, f.results.toList, f.ntmps)) = some (some b34, [.tmp 4], 99) := by kernel_rfl
noncomputable abbrev a34 (a b : AV) : List Value := [a.v, b.v]
noncomputable def z34 (x : MX) (a b : AV) : St := { smSt 1 [some (.fam x.F)] [] with tmps := a34 a b ++ List.replicate (99 - (a34 a b).length) undef, defers := [] }
noncomputable def tm34 (v : VF) (a b : AV) (i : Nat) : List Value := (a.v :: b.v :: .pointer (some ⟨1, 0, none⟩) :: .pointer (some ⟨2, 0, none⟩) :: v 4 :: .int .i64 (nI i) :: vs v 6 93 [])
theorem tm34_dead {v : VF} {a b : AV} {i : Nat} {B : Nat → Bool} (h : ∀ i, DeadV (v i)) (hB : ∀ i, ((Nat.ble 0 i && Nat.ble i 3) || Nat.beq i 5) = true → B i = true) : deadT B 0 (tm34 v a b i) :=
  ⟨fun e => absurd e (by rw [hB 0 rfl]; decide), ⟨fun e => absurd e (by rw [hB 1 rfl]; decide), ⟨fun e => absurd e (by rw [hB 2 rfl]; decide), ⟨fun e => absurd e (by rw [hB 3 rfl]; decide), ⟨fun _ => h 4, ⟨fun e => absurd e (by rw [hB 5 rfl]; decide), deadT_vs h 93 (trivial)⟩⟩⟩⟩⟩⟩
noncomputable def h34 (x : MX) (a b : AV) : Nat → Option Ob := fun i => match i with
  | 0 => some (.fam x.F)
  | 1 => some (.cells (.lit a.l) 32)
  | 2 => some (.cells (.lit b.l) 32)
  | _ => none
theorem h34_ok (x : MX) (a b : AV) : Go.Cln.RowsIn (h34 x a b) := by
  intro b n' w' g' t h
  unfold h34 at h
  split at h <;> first | (cases h; done) | cases h
noncomputable def s34 (x : MX) (a b : AV) (i : Nat) (v : VF) : St := ⟨tm34 v a b i, [], Tr.rebuild (h34 x a b) 3, 3, 1, [], fun _ => false, True, []⟩
def go34 (K : Given) (c : Code) (s : St) (o : List (Option Bool)) : Option (Exit × St) := (mk Tryz.prog K 200).code 34 none c { s with obl := True, orc := o }
def gd34 (K : Given) (s : St) (o : List (Option Bool)) : Option (St × Code) := down (mk Tryz.prog K 200) 34 none [2, 2, 3, 2, 0] b34 { s with obl := True, orc := o }
def WD34 (i : Nat) : Bool := Nat.beq i 4 || (Nat.ble 6 i && Nat.ble i 62)
noncomputable def VD34 (v : VF) : VF := fun i => match WD34 i with
  | true => junk
  | false => v i
def BD34 (i : Nat) : Bool := ((Nat.ble 0 i && Nat.ble i 3) || Nat.beq i 5) || WD34 i
theorem VD34_dead {v : VF} (h : ∀ i, DeadV (v i)) (i : Nat) : DeadV (VD34 v i) := by
  unfold VD34
  split
  · exact DeadV.junk
  · exact h i
theorem lvD34 (i : Nat) (h : ((Nat.ble 0 i && Nat.ble i 3) || Nat.beq i 5) = true) : BD34 i = true := by
  unfold BD34
  simp only [Bool.or_eq_true] at h ⊢
  exact .inl h
def WR34 (i : Nat) : Bool := (Nat.ble 63 i && Nat.ble i 98)
noncomputable def VR34 (v : VF) : VF := fun i => match WR34 i with
  | true => junk
  | false => v i
def BR34 (i : Nat) : Bool := ((Nat.ble 0 i && Nat.ble i 3) || Nat.beq i 5) || WR34 i
theorem VR34_dead {v : VF} (h : ∀ i, DeadV (v i)) (i : Nat) : DeadV (VR34 v i) := by
  unfold VR34
  split
  · exact DeadV.junk
  · exact h i
theorem lvR34 (i : Nat) (h : ((Nat.ble 0 i && Nat.ble i 3) || Nat.beq i 5) = true) : BR34 i = true := by
  unfold BR34
  simp only [Bool.or_eq_true] at h ⊢
  exact .inl h
def WX34 (i : Nat) : Bool := (Nat.ble 63 i && Nat.ble i 67)
noncomputable def VX34 (v : VF) : VF := fun i => match WX34 i with
  | true => junk
  | false => v i
def BX34 (i : Nat) : Bool := ((Nat.ble 0 i && Nat.ble i 3) || Nat.beq i 5) || WX34 i
theorem VX34_dead {v : VF} (h : ∀ i, DeadV (v i)) (i : Nat) : DeadV (VX34 v i) := by
  unfold VX34
  split
  · exact DeadV.junk
  · exact h i
theorem lvX34 (i : Nat) (h : ((Nat.ble 0 i && Nat.ble i 3) || Nat.beq i 5) = true) : BX34 i = true := by
  unfold BX34
  simp only [Bool.or_eq_true] at h ⊢
  exact .inl h
def pD_18 (x : MX) (a b : OV) (i : Nat) : Prop := ((((True ∧ (a.asn != b.asn) = false) ∧ (a.hold != b.hold) = false) ∧ (a.id != b.id) = false) ∧ (nI a.n != nI b.n) = false)
def pR_18 (x : MX) (a b : OV) (i : Nat) : Prop := (((((((((((((((((((((((((((((True ∧ decide (nI i < nI a.n) = true) ∧ (0 ≤ nI i ∧ nI i < nI a.n)) ∧ ((0 + i * 2) % 2 = 0 ∧ (0 + i * 2) / 2 < x.CN a.P)) ∧ (0 ≤ nI i ∧ nI i < nI b.n)) ∧ ((0 + i * 2) % 2 = 0 ∧ (0 + i * 2) / 2 < x.CN b.P)) ∧ (x.CK a.P (ix2 i) != x.CK b.P (ix2 i)) = false) ∧ (x.CK a.P (ix2 i) != x.CK b.P (ix2 i)) = false) ∧ (x.CK a.P (ix2 i) != x.CK b.P (ix2 i)) = false) ∧ (x.CK a.P (ix2 i) != x.CK b.P (ix2 i)) = false) ∧ (0 ≤ nI i ∧ nI i < nI a.n)) ∧ (x.CK a.P (ix2 i) != x.CK b.P (ix2 i)) = false) ∧ (x.CK a.P (ix2 i) != x.CK b.P (ix2 i)) = false) ∧ ((0 + i * 2 + 1) % 2 = 1 ∧ (0 + i * 2 + 1) / 2 < x.CN a.P)) ∧ (x.CK a.P (ix2 i) != x.CK b.P (ix2 i)) = false) ∧ (x.CM a.P (ix3 i) = 0 ∨ 0 + x.CM a.P (ix3 i) ≤ (x.D (x.CQ a.P (ix3 i))).length)) ∧ (x.CK a.P (ix2 i) != x.CK b.P (ix2 i)) = false) ∧ (x.CK a.P (ix2 i) != x.CK b.P (ix2 i)) = false) ∧ (x.CK a.P (ix2 i) != x.CK b.P (ix2 i)) = false) ∧ (x.CK a.P (ix2 i) != x.CK b.P (ix2 i)) = false) ∧ (0 ≤ nI i ∧ nI i < nI b.n)) ∧ (x.CK a.P (ix2 i) != x.CK b.P (ix2 i)) = false) ∧ (x.CK a.P (ix2 i) != x.CK b.P (ix2 i)) = false) ∧ ((0 + i * 2 + 1) % 2 = 1 ∧ (0 + i * 2 + 1) / 2 < x.CN b.P)) ∧ (x.CK a.P (ix2 i) != x.CK b.P (ix2 i)) = false) ∧ (x.CM b.P (ix3 i) = 0 ∨ 0 + x.CM b.P (ix3 i) ≤ (x.D (x.CQ b.P (ix3 i))).length)) ∧ (x.CK a.P (ix2 i) != x.CK b.P (ix2 i)) = false) ∧ (x.CK a.P (ix2 i) != x.CK b.P (ix2 i)) = false) ∧ (!(strE x (x.CQ a.P (ix3 i)) (x.CM a.P (ix3 i)) (x.CQ b.P (ix3 i)) (x.CM b.P (ix3 i)))) = false) ∧ IntKind.i64.wrap (nI i + 1) = nI i + 1)
def pN0_18 (x : MX) (a b : OV) (i : Nat) : Prop := (True ∧ (a.asn != b.asn) = true)
def pN1_18 (x : MX) (a b : OV) (i : Nat) : Prop := ((True ∧ (a.asn != b.asn) = false) ∧ (a.hold != b.hold) = true)
def pN2_18 (x : MX) (a b : OV) (i : Nat) : Prop := (((True ∧ (a.asn != b.asn) = false) ∧ (a.hold != b.hold) = false) ∧ (a.id != b.id) = true)
def pN3_18 (x : MX) (a b : OV) (i : Nat) : Prop := ((((True ∧ (a.asn != b.asn) = false) ∧ (a.hold != b.hold) = false) ∧ (a.id != b.id) = false) ∧ (nI a.n != nI b.n) = true)
def pF0_18 (x : MX) (a b : OV) (i : Nat) : Prop := (((((((((((((((((((((True ∧ decide (nI i < nI a.n) = true) ∧ (0 ≤ nI i ∧ nI i < nI a.n)) ∧ ((0 + i * 2) % 2 = 0 ∧ (0 + i * 2) / 2 < x.CN a.P)) ∧ (0 ≤ nI i ∧ nI i < nI b.n)) ∧ ((0 + i * 2) % 2 = 0 ∧ (0 + i * 2) / 2 < x.CN b.P)) ∧ (x.CK a.P (ix2 i) != x.CK b.P (ix2 i)) = true) ∧ (x.CK a.P (ix2 i) != x.CK b.P (ix2 i)) = true) ∧ (x.CK a.P (ix2 i) != x.CK b.P (ix2 i)) = true) ∧ (x.CK a.P (ix2 i) != x.CK b.P (ix2 i)) = true) ∧ (x.CK a.P (ix2 i) != x.CK b.P (ix2 i)) = true) ∧ (x.CK a.P (ix2 i) != x.CK b.P (ix2 i)) = true) ∧ (x.CK a.P (ix2 i) != x.CK b.P (ix2 i)) = true) ∧ (x.CK a.P (ix2 i) != x.CK b.P (ix2 i)) = true) ∧ (x.CK a.P (ix2 i) != x.CK b.P (ix2 i)) = true) ∧ (x.CK a.P (ix2 i) != x.CK b.P (ix2 i)) = true) ∧ (x.CK a.P (ix2 i) != x.CK b.P (ix2 i)) = true) ∧ (x.CK a.P (ix2 i) != x.CK b.P (ix2 i)) = true) ∧ (x.CK a.P (ix2 i) != x.CK b.P (ix2 i)) = true) ∧ (x.CK a.P (ix2 i) != x.CK b.P (ix2 i)) = true) ∧ (x.CK a.P (ix2 i) != x.CK b.P (ix2 i)) = true) ∧ (x.CK a.P (ix2 i) != x.CK b.P (ix2 i)) = true)
def pF1_18 (x : MX) (a b : OV) (i : Nat) : Prop := ((((((((((((((((((((((((((((True ∧ decide (nI i < nI a.n) = true) ∧ (0 ≤ nI i ∧ nI i < nI a.n)) ∧ ((0 + i * 2) % 2 = 0 ∧ (0 + i * 2) / 2 < x.CN a.P)) ∧ (0 ≤ nI i ∧ nI i < nI b.n)) ∧ ((0 + i * 2) % 2 = 0 ∧ (0 + i * 2) / 2 < x.CN b.P)) ∧ (x.CK a.P (ix2 i) != x.CK b.P (ix2 i)) = false) ∧ (x.CK a.P (ix2 i) != x.CK b.P (ix2 i)) = false) ∧ (x.CK a.P (ix2 i) != x.CK b.P (ix2 i)) = false) ∧ (x.CK a.P (ix2 i) != x.CK b.P (ix2 i)) = false) ∧ (0 ≤ nI i ∧ nI i < nI a.n)) ∧ (x.CK a.P (ix2 i) != x.CK b.P (ix2 i)) = false) ∧ (x.CK a.P (ix2 i) != x.CK b.P (ix2 i)) = false) ∧ ((0 + i * 2 + 1) % 2 = 1 ∧ (0 + i * 2 + 1) / 2 < x.CN a.P)) ∧ (x.CK a.P (ix2 i) != x.CK b.P (ix2 i)) = false) ∧ (x.CM a.P (ix3 i) = 0 ∨ 0 + x.CM a.P (ix3 i) ≤ (x.D (x.CQ a.P (ix3 i))).length)) ∧ (x.CK a.P (ix2 i) != x.CK b.P (ix2 i)) = false) ∧ (x.CK a.P (ix2 i) != x.CK b.P (ix2 i)) = false) ∧ (x.CK a.P (ix2 i) != x.CK b.P (ix2 i)) = false) ∧ (x.CK a.P (ix2 i) != x.CK b.P (ix2 i)) = false) ∧ (0 ≤ nI i ∧ nI i < nI b.n)) ∧ (x.CK a.P (ix2 i) != x.CK b.P (ix2 i)) = false) ∧ (x.CK a.P (ix2 i) != x.CK b.P (ix2 i)) = false) ∧ ((0 + i * 2 + 1) % 2 = 1 ∧ (0 + i * 2 + 1) / 2 < x.CN b.P)) ∧ (x.CK a.P (ix2 i) != x.CK b.P (ix2 i)) = false) ∧ (x.CM b.P (ix3 i) = 0 ∨ 0 + x.CM b.P (ix3 i) ≤ (x.D (x.CQ b.P (ix3 i))).length)) ∧ (x.CK a.P (ix2 i) != x.CK b.P (ix2 i)) = false) ∧ (x.CK a.P (ix2 i) != x.CK b.P (ix2 i)) = false) ∧ (!(strE x (x.CQ a.P (ix3 i)) (x.CM a.P (ix3 i)) (x.CQ b.P (ix3 i)) (x.CM b.P (ix3 i)))) = true)
theorem kD18 (x : MX) (a b : OV) : (gd18 (K1 x) (z18 x a b) [some false, none, none, none, none, none, some false, none, none, none, none, none, some false, none, none, none, none, none, none, none, some false]).map (fun r => (r.2, r.1.obl, seenInT BD18 r.1 (s18 x a b 0 (VD18 vU)) [0, 1, 2])) = some (.loop l18, pD_18 x a b 0, seenAsT BD18 (s18 x a b 0 (VD18 vU)) [0, 1, 2] 3) := by kernel_rfl
theorem kN0_18 (x : MX) (a b : OV) : ((mk Tryz.prog (K1 x) 200).call 18 (a18 a b) (smSt 1 [some (.fam x.F)] [some true])).map (fun r => (r.1, r.2.obl)) = some (.bool false, pN0_18 x a b 0) := by kernel_rfl
theorem kN1_18 (x : MX) (a b : OV) : ((mk Tryz.prog (K1 x) 200).call 18 (a18 a b) (smSt 1 [some (.fam x.F)] [some false, none, none, none, none, none, some true])).map (fun r => (r.1, r.2.obl)) = some (.bool false, pN1_18 x a b 0) := by kernel_rfl
theorem kN2_18 (x : MX) (a b : OV) : ((mk Tryz.prog (K1 x) 200).call 18 (a18 a b) (smSt 1 [some (.fam x.F)] [some false, none, none, none, none, none, some false, none, none, none, none, none, some true])).map (fun r => (r.1, r.2.obl)) = some (.bool false, pN2_18 x a b 0) := by kernel_rfl
theorem kN3_18 (x : MX) (a b : OV) : ((mk Tryz.prog (K1 x) 200).call 18 (a18 a b) (smSt 1 [some (.fam x.F)] [some false, none, none, none, none, none, some false, none, none, none, none, none, some false, none, none, none, none, none, none, none, some true])).map (fun r => (r.1, r.2.obl)) = some (.bool false, pN3_18 x a b 0) := by kernel_rfl
theorem kR18 (x : MX) (a b : OV) (i : Nat) (v : VF) : (go18 (K1 x) l18 (s18 x a b i v) [some true, some true, some false, some true, some true, some false, some true, some false, some false, some false, some false, some true, some false, some false, some false, none, some true, some false, some false, some false, some false, some false, some true, some false, some false, some false, none, some true, some false, some false, some false, some false, some true]).map (fun r => (r.1, r.2.obl, seenInT BR18 r.2 (s18 x a b (i + 1) (VR18 v)) [0, 1, 2])) = some (.normal, pR_18 x a b i, seenAsT BR18 (s18 x a b (i + 1) (VR18 v)) [0, 1, 2] 3) := by kernel_rfl
theorem kX18 (x : MX) (a b : OV) (i : Nat) (v : VF) : (go18 (K1 x) l18 (s18 x a b i v) [some false]).map (fun r => (r.1, r.2.obl, seenInT BX18 r.2 (s18 x a b i (VX18 v)) [0, 1, 2])) = some (.exit 0, True ∧ decide (nI i < nI a.n) = false, seenAsT BX18 (s18 x a b i (VX18 v)) [0, 1, 2] 3) := by kernel_rfl
theorem kF0_18 (x : MX) (a b : OV) (i : Nat) (v : VF) : (go18 (K1 x) l18 (s18 x a b i v) [some true, some true, some false, some true, some true, some false, some true, some true, some true, some true, some true, some true, some true, some true, some true, some true, some true, some true, some true, some true, some true, some true, some true]).bind (fun r => (results1 Tryz.prog r.2 [.tmp 4]).map fun q => (r.1, q.2.obl, r.2.defers, oneOf q.1)) = some (.ret, pF0_18 x a b i, [], .bool false) := by kernel_rfl
theorem kF1_18 (x : MX) (a b : OV) (i : Nat) (v : VF) : (go18 (K1 x) l18 (s18 x a b i v) [some true, some true, some false, some true, some true, some false, some true, some false, some false, some false, some false, some true, some false, some false, some false, none, some true, some false, some false, some false, some false, some false, some true, some false, some false, some false, none, some true, some false, some false, some false, some true]).bind (fun r => (results1 Tryz.prog r.2 [.tmp 4]).map fun q => (r.1, q.2.obl, r.2.defers, oneOf q.1)) = some (.ret, pF1_18 x a b i, [], .bool false) := by kernel_rfl
theorem kE18 (x : MX) (a b : OV) (i : Nat) (v : VF) : (go18 (K1 x) e18 (s18 x a b i v) []).bind (fun r => (results1 Tryz.prog r.2 [.tmp 4]).map fun q => (r.1, q.2.obl, r.2.defers, oneOf q.1)) = some (.ret, True, [], .bool true) := by kernel_rfl
theorem okD18 (x : MX) (a b : OV) (i : Nat) (v : VF) : picOkT BD18 (z18 x a b) (s18 x a b i (VD18 v)) [0, 1, 2] = true := by kernel_rfl
theorem okR18 (x : MX) (a b : OV) (i : Nat) (v : VF) : picOkT BR18 (z18 x a b) (s18 x a b i (VR18 v)) [0, 1, 2] = true := by kernel_rfl
theorem okX18 (x : MX) (a b : OV) (i : Nat) (v : VF) : picOkT BX18 (z18 x a b) (s18 x a b i (VX18 v)) [0, 1, 2] = true := by kernel_rfl
theorem up18 (x : MX) (a b : OV) (Q_ : Exit → St → Prop) : upQ Tryz.prog none (z18 x a b) [2, 2, 3, 2, 0] b18 Q_ = fun e s => (fun e s => (e = .normal ∧ StepG Tryz.prog none (z18 x a b) e18 s Q_) ∨ (e ≠ .normal ∧ Q_ e s)) (blockOut 0 e) s := by kernel_rfl
def pD_34 (x : MX) (a b : AV) (i : Nat) : Prop := (((((((((True ∧ (a.o != b.o) = false) ∧ (a.nx != b.nx) = false) ∧ (a.hm != b.hm) = false) ∧ (a.md != b.md) = false) ∧ (a.hp != b.hp) = false) ∧ (a.pf != b.pf) = false) ∧ (nI a.n != nI b.n) = false) ∧ (x.F = x.F ∧ numOk x a.Q a.m ∧ numOk x b.Q b.m)) ∧ (!(rowE x a.Q a.m b.Q b.m)) = false)
def pR_34 (x : MX) (a b : AV) (i : Nat) : Prop := (((((((((((((((((((((((((((True ∧ decide (nI i < nI a.n) = true) ∧ (0 ≤ nI i ∧ nI i < nI a.n)) ∧ ((0 + i * 2) % 2 = 0 ∧ (0 + i * 2) / 2 < x.LN a.P)) ∧ (0 ≤ nI i ∧ nI i < nI b.n)) ∧ ((0 + i * 2) % 2 = 0 ∧ (0 + i * 2) / 2 < x.LN b.P)) ∧ (x.LS a.P (ix2 i) != x.LS b.P (ix2 i)) = false) ∧ (x.LS a.P (ix2 i) != x.LS b.P (ix2 i)) = false) ∧ (x.LS a.P (ix2 i) != x.LS b.P (ix2 i)) = false) ∧ (x.LS a.P (ix2 i) != x.LS b.P (ix2 i)) = false) ∧ (0 ≤ nI i ∧ nI i < nI a.n)) ∧ (x.LS a.P (ix2 i) != x.LS b.P (ix2 i)) = false) ∧ (x.LS a.P (ix2 i) != x.LS b.P (ix2 i)) = false) ∧ ((0 + i * 2 + 1) % 2 = 1 ∧ (0 + i * 2 + 1) / 2 < x.LN a.P)) ∧ (x.LS a.P (ix2 i) != x.LS b.P (ix2 i)) = false) ∧ (x.LS a.P (ix2 i) != x.LS b.P (ix2 i)) = false) ∧ (x.LS a.P (ix2 i) != x.LS b.P (ix2 i)) = false) ∧ (x.LS a.P (ix2 i) != x.LS b.P (ix2 i)) = false) ∧ (0 ≤ nI i ∧ nI i < nI b.n)) ∧ (x.LS a.P (ix2 i) != x.LS b.P (ix2 i)) = false) ∧ (x.LS a.P (ix2 i) != x.LS b.P (ix2 i)) = false) ∧ ((0 + i * 2 + 1) % 2 = 1 ∧ (0 + i * 2 + 1) / 2 < x.LN b.P)) ∧ (x.LS a.P (ix2 i) != x.LS b.P (ix2 i)) = false) ∧ (x.F = x.F ∧ numOk x (x.LQ a.P (ix3 i)) (x.LM a.P (ix3 i)) ∧ numOk x (x.LQ b.P (ix3 i)) (x.LM b.P (ix3 i)))) ∧ (x.LS a.P (ix2 i) != x.LS b.P (ix2 i)) = false) ∧ (x.LS a.P (ix2 i) != x.LS b.P (ix2 i)) = false) ∧ (!(rowE x (x.LQ a.P (ix3 i)) (x.LM a.P (ix3 i)) (x.LQ b.P (ix3 i)) (x.LM b.P (ix3 i)))) = false) ∧ IntKind.i64.wrap (nI i + 1) = nI i + 1)
def pN0_34 (x : MX) (a b : AV) (i : Nat) : Prop := (True ∧ (a.o != b.o) = true)
def pN1_34 (x : MX) (a b : AV) (i : Nat) : Prop := ((True ∧ (a.o != b.o) = false) ∧ (a.nx != b.nx) = true)
def pN2_34 (x : MX) (a b : AV) (i : Nat) : Prop := (((True ∧ (a.o != b.o) = false) ∧ (a.nx != b.nx) = false) ∧ (a.hm != b.hm) = true)
def pN3_34 (x : MX) (a b : AV) (i : Nat) : Prop := ((((True ∧ (a.o != b.o) = false) ∧ (a.nx != b.nx) = false) ∧ (a.hm != b.hm) = false) ∧ (a.md != b.md) = true)
def pN4_34 (x : MX) (a b : AV) (i : Nat) : Prop := (((((True ∧ (a.o != b.o) = false) ∧ (a.nx != b.nx) = false) ∧ (a.hm != b.hm) = false) ∧ (a.md != b.md) = false) ∧ (a.hp != b.hp) = true)
def pN5_34 (x : MX) (a b : AV) (i : Nat) : Prop := ((((((True ∧ (a.o != b.o) = false) ∧ (a.nx != b.nx) = false) ∧ (a.hm != b.hm) = false) ∧ (a.md != b.md) = false) ∧ (a.hp != b.hp) = false) ∧ (a.pf != b.pf) = true)
def pN6_34 (x : MX) (a b : AV) (i : Nat) : Prop := (((((((True ∧ (a.o != b.o) = false) ∧ (a.nx != b.nx) = false) ∧ (a.hm != b.hm) = false) ∧ (a.md != b.md) = false) ∧ (a.hp != b.hp) = false) ∧ (a.pf != b.pf) = false) ∧ (nI a.n != nI b.n) = true)
def pN7_34 (x : MX) (a b : AV) (i : Nat) : Prop := (((((((((True ∧ (a.o != b.o) = false) ∧ (a.nx != b.nx) = false) ∧ (a.hm != b.hm) = false) ∧ (a.md != b.md) = false) ∧ (a.hp != b.hp) = false) ∧ (a.pf != b.pf) = false) ∧ (nI a.n != nI b.n) = false) ∧ (x.F = x.F ∧ numOk x a.Q a.m ∧ numOk x b.Q b.m)) ∧ (!(rowE x a.Q a.m b.Q b.m)) = true)
def pF0_34 (x : MX) (a b : AV) (i : Nat) : Prop := ((((((((((((((((((((True ∧ decide (nI i < nI a.n) = true) ∧ (0 ≤ nI i ∧ nI i < nI a.n)) ∧ ((0 + i * 2) % 2 = 0 ∧ (0 + i * 2) / 2 < x.LN a.P)) ∧ (0 ≤ nI i ∧ nI i < nI b.n)) ∧ ((0 + i * 2) % 2 = 0 ∧ (0 + i * 2) / 2 < x.LN b.P)) ∧ (x.LS a.P (ix2 i) != x.LS b.P (ix2 i)) = true) ∧ (x.LS a.P (ix2 i) != x.LS b.P (ix2 i)) = true) ∧ (x.LS a.P (ix2 i) != x.LS b.P (ix2 i)) = true) ∧ (x.LS a.P (ix2 i) != x.LS b.P (ix2 i)) = true) ∧ (x.LS a.P (ix2 i) != x.LS b.P (ix2 i)) = true) ∧ (x.LS a.P (ix2 i) != x.LS b.P (ix2 i)) = true) ∧ (x.LS a.P (ix2 i) != x.LS b.P (ix2 i)) = true) ∧ (x.LS a.P (ix2 i) != x.LS b.P (ix2 i)) = true) ∧ (x.LS a.P (ix2 i) != x.LS b.P (ix2 i)) = true) ∧ (x.LS a.P (ix2 i) != x.LS b.P (ix2 i)) = true) ∧ (x.LS a.P (ix2 i) != x.LS b.P (ix2 i)) = true) ∧ (x.LS a.P (ix2 i) != x.LS b.P (ix2 i)) = true) ∧ (x.LS a.P (ix2 i) != x.LS b.P (ix2 i)) = true) ∧ (x.LS a.P (ix2 i) != x.LS b.P (ix2 i)) = true) ∧ (x.LS a.P (ix2 i) != x.LS b.P (ix2 i)) = true)
def pF1_34 (x : MX) (a b : AV) (i : Nat) : Prop := ((((((((((((((((((((((((((True ∧ decide (nI i < nI a.n) = true) ∧ (0 ≤ nI i ∧ nI i < nI a.n)) ∧ ((0 + i * 2) % 2 = 0 ∧ (0 + i * 2) / 2 < x.LN a.P)) ∧ (0 ≤ nI i ∧ nI i < nI b.n)) ∧ ((0 + i * 2) % 2 = 0 ∧ (0 + i * 2) / 2 < x.LN b.P)) ∧ (x.LS a.P (ix2 i) != x.LS b.P (ix2 i)) = false) ∧ (x.LS a.P (ix2 i) != x.LS b.P (ix2 i)) = false) ∧ (x.LS a.P (ix2 i) != x.LS b.P (ix2 i)) = false) ∧ (x.LS a.P (ix2 i) != x.LS b.P (ix2 i)) = false) ∧ (0 ≤ nI i ∧ nI i < nI a.n)) ∧ (x.LS a.P (ix2 i) != x.LS b.P (ix2 i)) = false) ∧ (x.LS a.P (ix2 i) != x.LS b.P (ix2 i)) = false) ∧ ((0 + i * 2 + 1) % 2 = 1 ∧ (0 + i * 2 + 1) / 2 < x.LN a.P)) ∧ (x.LS a.P (ix2 i) != x.LS b.P (ix2 i)) = false) ∧ (x.LS a.P (ix2 i) != x.LS b.P (ix2 i)) = false) ∧ (x.LS a.P (ix2 i) != x.LS b.P (ix2 i)) = false) ∧ (x.LS a.P (ix2 i) != x.LS b.P (ix2 i)) = false) ∧ (0 ≤ nI i ∧ nI i < nI b.n)) ∧ (x.LS a.P (ix2 i) != x.LS b.P (ix2 i)) = false) ∧ (x.LS a.P (ix2 i) != x.LS b.P (ix2 i)) = false) ∧ ((0 + i * 2 + 1) % 2 = 1 ∧ (0 + i * 2 + 1) / 2 < x.LN b.P)) ∧ (x.LS a.P (ix2 i) != x.LS b.P (ix2 i)) = false) ∧ (x.F = x.F ∧ numOk x (x.LQ a.P (ix3 i)) (x.LM a.P (ix3 i)) ∧ numOk x (x.LQ b.P (ix3 i)) (x.LM b.P (ix3 i)))) ∧ (x.LS a.P (ix2 i) != x.LS b.P (ix2 i)) = false) ∧ (x.LS a.P (ix2 i) != x.LS b.P (ix2 i)) = false) ∧ (!(rowE x (x.LQ a.P (ix3 i)) (x.LM a.P (ix3 i)) (x.LQ b.P (ix3 i)) (x.LM b.P (ix3 i)))) = true)
theorem kD34 (x : MX) (a b : AV) : (gd34 (K1 x) (z34 x a b) [some false, none, none, none, none, none, some false, none, none, none, none, none, some false, none, none, none, none, none, some false, none, none, none, none, none, some false, none, none, none, none, none, some false, none, none, none, none, none, none, none, some false, none, none, none, none, none, none, some false]).map (fun r => (r.2, r.1.obl, seenInT BD34 r.1 (s34 x a b 0 (VD34 vU)) [0, 1, 2])) = some (.loop l34, pD_34 x a b 0, seenAsT BD34 (s34 x a b 0 (VD34 vU)) [0, 1, 2] 3) := by kernel_rfl
theorem kN0_34 (x : MX) (a b : AV) : ((mk Tryz.prog (K1 x) 200).call 34 (a34 a b) (smSt 1 [some (.fam x.F)] [some true])).map (fun r => (r.1, r.2.obl)) = some (.bool false, pN0_34 x a b 0) := by kernel_rfl
theorem kN1_34 (x : MX) (a b : AV) : ((mk Tryz.prog (K1 x) 200).call 34 (a34 a b) (smSt 1 [some (.fam x.F)] [some false, none, none, none, none, none, some true])).map (fun r => (r.1, r.2.obl)) = some (.bool false, pN1_34 x a b 0) := by kernel_rfl
theorem kN2_34 (x : MX) (a b : AV) : ((mk Tryz.prog (K1 x) 200).call 34 (a34 a b) (smSt 1 [some (.fam x.F)] [some false, none, none, none, none, none, some false, none, none, none, none, none, some true])).map (fun r => (r.1, r.2.obl)) = some (.bool false, pN2_34 x a b 0) := by kernel_rfl
theorem kN3_34 (x : MX) (a b : AV) : ((mk Tryz.prog (K1 x) 200).call 34 (a34 a b) (smSt 1 [some (.fam x.F)] [some false, none, none, none, none, none, some false, none, none, none, none, none, some false, none, none, none, none, none, some true])).map (fun r => (r.1, r.2.obl)) = some (.bool false, pN3_34 x a b 0) := by kernel_rfl
theorem kN4_34 (x : MX) (a b : AV) : ((mk Tryz.prog (K1 x) 200).call 34 (a34 a b) (smSt 1 [some (.fam x.F)] [some false, none, none, none, none, none, some false, none, none, none, none, none, some false, none, none, none, none, none, some false, none, none, none, none, none, some true])).map (fun r => (r.1, r.2.obl)) = some (.bool false, pN4_34 x a b 0) := by kernel_rfl
theorem kN5_34 (x : MX) (a b : AV) : ((mk Tryz.prog (K1 x) 200).call 34 (a34 a b) (smSt 1 [some (.fam x.F)] [some false, none, none, none, none, none, some false, none, none, none, none, none, some false, none, none, none, none, none, some false, none, none, none, none, none, some false, none, none, none, none, none, some true])).map (fun r => (r.1, r.2.obl)) = some (.bool false, pN5_34 x a b 0) := by kernel_rfl
theorem kN6_34 (x : MX) (a b : AV) : ((mk Tryz.prog (K1 x) 200).call 34 (a34 a b) (smSt 1 [some (.fam x.F)] [some false, none, none, none, none, none, some false, none, none, none, none, none, some false, none, none, none, none, none, some false, none, none, none, none, none, some false, none, none, none, none, none, some false, none, none, none, none, none, none, none, some true])).map (fun r => (r.1, r.2.obl)) = some (.bool false, pN6_34 x a b 0) := by kernel_rfl
theorem kN7_34 (x : MX) (a b : AV) : ((mk Tryz.prog (K1 x) 200).call 34 (a34 a b) (smSt 1 [some (.fam x.F)] [some false, none, none, none, none, none, some false, none, none, none, none, none, some false, none, none, none, none, none, some false, none, none, none, none, none, some false, none, none, none, none, none, some false, none, none, none, none, none, none, none, some false, none, none, none, none, none, none, some true])).map (fun r => (r.1, r.2.obl)) = some (.bool false, pN7_34 x a b 0) := by kernel_rfl
theorem kR34 (x : MX) (a b : AV) (i : Nat) (v : VF) : (go34 (K1 x) l34 (s34 x a b i v) [some true, some true, some false, some true, some true, some false, some true, some false, some false, some false, some false, some true, some false, some false, some false, none, some true, some false, some false, some false, some false, some true, some false, some false, some false, none, some true, some false, some false, some false, some false, some true]).map (fun r => (r.1, r.2.obl, seenInT BR34 r.2 (s34 x a b (i + 1) (VR34 v)) [0, 1, 2])) = some (.normal, pR_34 x a b i, seenAsT BR34 (s34 x a b (i + 1) (VR34 v)) [0, 1, 2] 3) := by kernel_rfl
theorem kX34 (x : MX) (a b : AV) (i : Nat) (v : VF) : (go34 (K1 x) l34 (s34 x a b i v) [some false]).map (fun r => (r.1, r.2.obl, seenInT BX34 r.2 (s34 x a b i (VX34 v)) [0, 1, 2])) = some (.exit 0, True ∧ decide (nI i < nI a.n) = false, seenAsT BX34 (s34 x a b i (VX34 v)) [0, 1, 2] 3) := by kernel_rfl
theorem kF0_34 (x : MX) (a b : AV) (i : Nat) (v : VF) : (go34 (K1 x) l34 (s34 x a b i v) [some true, some true, some false, some true, some true, some false, some true, some true, some true, some true, some true, some true, some true, some true, some true, some true, some true, some true, some true, some true, some true, some true]).bind (fun r => (results1 Tryz.prog r.2 [.tmp 4]).map fun q => (r.1, q.2.obl, r.2.defers, oneOf q.1)) = some (.ret, pF0_34 x a b i, [], .bool false) := by kernel_rfl
theorem kF1_34 (x : MX) (a b : AV) (i : Nat) (v : VF) : (go34 (K1 x) l34 (s34 x a b i v) [some true, some true, some false, some true, some true, some false, some true, some false, some false, some false, some false, some true, some false, some false, some false, none, some true, some false, some false, some false, some false, some true, some false, some false, some false, none, some true, some false, some false, some false, some true]).bind (fun r => (results1 Tryz.prog r.2 [.tmp 4]).map fun q => (r.1, q.2.obl, r.2.defers, oneOf q.1)) = some (.ret, pF1_34 x a b i, [], .bool false) := by kernel_rfl
theorem kE34 (x : MX) (a b : AV) (i : Nat) (v : VF) : (go34 (K1 x) e34 (s34 x a b i v) []).bind (fun r => (results1 Tryz.prog r.2 [.tmp 4]).map fun q => (r.1, q.2.obl, r.2.defers, oneOf q.1)) = some (.ret, True, [], .bool true) := by kernel_rfl
theorem okD34 (x : MX) (a b : AV) (i : Nat) (v : VF) : picOkT BD34 (z34 x a b) (s34 x a b i (VD34 v)) [0, 1, 2] = true := by kernel_rfl
theorem okR34 (x : MX) (a b : AV) (i : Nat) (v : VF) : picOkT BR34 (z34 x a b) (s34 x a b i (VR34 v)) [0, 1, 2] = true := by kernel_rfl
theorem okX34 (x : MX) (a b : AV) (i : Nat) (v : VF) : picOkT BX34 (z34 x a b) (s34 x a b i (VX34 v)) [0, 1, 2] = true := by kernel_rfl
theorem up34 (x : MX) (a b : AV) (Q_ : Exit → St → Prop) : upQ Tryz.prog none (z34 x a b) [2, 2, 3, 2, 0] b34 Q_ = fun e s => (fun e s => (e = .normal ∧ StepG Tryz.prog none (z34 x a b) e34 s Q_) ∨ (e ≠ .normal ∧ Q_ e s)) (blockOut 0 e) s := by kernel_rfl
end
end ob
end Go.Proofs.YtopgddoncehhnaaGreat
