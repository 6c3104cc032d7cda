/- Read off the code by the clean reading. -/
import Derived.Test.YthpoeegoankpoaaGreatClnMd
set_option linter.unusedVariables false
set_option linter.unusedSimpArgs false
set_option linter.deprecated false
set_option maxRecDepth 100000
namespace Go.Proofs.YthpoeegoankpoaaGreat
open Go.ChangeShapes Go.WideShapes Go.ChangeAt Go.RowKit Go.Cln
namespace ob
set_option linter.unusedVariables false
noncomputable section
def RV.wE (r : RV) (b : Bool) : RV := { r with E := b }
end
end ob
end Go.Proofs.YthpoeegoankpoaaGreat
namespace Go.Proofs.YthpoeegoankpoaaGreat
open Go.ChangeShapes Go.WideShapes Go.ChangeAt Go.RowKit Go.Cln
namespace ob
set_option linter.unusedVariables false
noncomputable section
theorem fits_f {x : MX} {r : RV} {a l : Int} {y : AV} : fitsE x (r.wE false) a l y = (ruleQ (r.wE false) && attrsE x y && coversE r.A r.B a l && (decide (r.C ≤ l) && decide (l ≤ r.D)) && true && ((r.H == 0) || hasAnyE x y.P y.n r.H)) := rfl
theorem k8_f_0 (x : MX) (r : RV) (a l : Int) (y : AV) : ((mk Tryz.prog (KF x) 200).call 8 [(r.wE false).v, pv a l, y.v] (smSt 1 [some (.fam x.F)] [some true, none, none, none, none, none, none, none, none])).map (fun r => (r.1, r.2.obl)) = some (Value.bool false, ((True ∧ (x.F = x.F ∧ (rvOk (r.wE false)))) ∧ (!ruleQ (r.wE false)) = true)) := by kernel_rfl
theorem k8_f_1 (x : MX) (r : RV) (a l : Int) (y : AV) : ((mk Tryz.prog (KF x) 200).call 8 [(r.wE false).v, pv a l, y.v] (smSt 1 [some (.fam x.F)] [some false, none, none, none, some true, none, none, none, none])).map (fun r => (r.1, r.2.obl)) = some (Value.bool false, ((((True ∧ (x.F = x.F ∧ (rvOk (r.wE false)))) ∧ (!ruleQ (r.wE false)) = false) ∧ (x.F = x.F ∧ (pvOk a l))) ∧ (!rightE a l) = true)) := by kernel_rfl
theorem k8_f_2 (x : MX) (r : RV) (a l : Int) (y : AV) : ((mk Tryz.prog (KF x) 200).call 8 [(r.wE false).v, pv a l, y.v] (smSt 1 [some (.fam x.F)] [some false, none, none, none, some false, none, none, none, some true])).map (fun r => (r.1, r.2.obl)) = some (Value.bool false, ((((((True ∧ (x.F = x.F ∧ (rvOk (r.wE false)))) ∧ (!ruleQ (r.wE false)) = false) ∧ (x.F = x.F ∧ (pvOk a l))) ∧ (!rightE a l) = false) ∧ (x.F = x.F ∧ (avOk x y))) ∧ (!attrsE x y) = true)) := by kernel_rfl
theorem k8_f_3 (x : MX) (r : RV) (a l : Int) (y : AV) : ((mk Tryz.prog (KF x) 200).call 8 [(r.wE false).v, pv a l, y.v] (smSt 1 [some (.fam x.F)] [some false, none, none, none, some false, none, none, none, some false, some true, none, none, none, none, none, none, none, none, none, none, none, none])).map (fun r => (r.1, r.2.obl)) = some (Value.bool false, ((((((((True ∧ (x.F = x.F ∧ (rvOk (r.wE false)))) ∧ (!ruleQ (r.wE false)) = false) ∧ (x.F = x.F ∧ (pvOk a l))) ∧ (!rightE a l) = false) ∧ (x.F = x.F ∧ (avOk x y))) ∧ (!attrsE x y) = false) ∧ (x.F = x.F ∧ (pvOk r.A r.B ∧ pvOk a l))) ∧ (!coversE r.A r.B a l) = true)) := by kernel_rfl
theorem k8_f_4 (x : MX) (r : RV) (a l : Int) (y : AV) : ((mk Tryz.prog (KF x) 200).call 8 [(r.wE false).v, pv a l, y.v] (smSt 1 [some (.fam x.F)] [some false, none, none, none, some false, none, none, none, some false, some false, none, none, none, none, none, some true, none, none, none, none, none, none])).map (fun r => (r.1, r.2.obl)) = some (Value.bool false, (((((((((True ∧ (x.F = x.F ∧ (rvOk (r.wE false)))) ∧ (!ruleQ (r.wE false)) = false) ∧ (x.F = x.F ∧ (pvOk a l))) ∧ (!rightE a l) = false) ∧ (x.F = x.F ∧ (avOk x y))) ∧ (!attrsE x y) = false) ∧ (x.F = x.F ∧ (pvOk r.A r.B ∧ pvOk a l))) ∧ (!coversE r.A r.B a l) = false) ∧ (decide (l < r.C)) = true)) := by kernel_rfl
theorem k8_f_5 (x : MX) (r : RV) (a l : Int) (y : AV) : ((mk Tryz.prog (KF x) 200).call 8 [(r.wE false).v, pv a l, y.v] (smSt 1 [some (.fam x.F)] [some false, none, none, none, some false, none, none, none, some false, some false, none, none, none, none, none, some false, none, none, none, none, none, some true])).map (fun r => (r.1, r.2.obl)) = some (Value.bool false, ((((((((((True ∧ (x.F = x.F ∧ (rvOk (r.wE false)))) ∧ (!ruleQ (r.wE false)) = false) ∧ (x.F = x.F ∧ (pvOk a l))) ∧ (!rightE a l) = false) ∧ (x.F = x.F ∧ (avOk x y))) ∧ (!attrsE x y) = false) ∧ (x.F = x.F ∧ (pvOk r.A r.B ∧ pvOk a l))) ∧ (!coversE r.A r.B a l) = false) ∧ (decide (l < r.C)) = false) ∧ (decide (l > r.D)) = true)) := by kernel_rfl
theorem k8_f_6 (x : MX) (r : RV) (a l : Int) (y : AV) : ((mk Tryz.prog (KF x) 200).call 8 [(r.wE false).v, pv a l, y.v] (smSt 1 [some (.fam x.F)] [some false, none, none, none, some false, none, none, none, some false, some false, none, none, none, none, none, some false, none, none, none, none, none, some false, none, some true, none, none, none, none])).map (fun r => (r.1, r.2.obl)) = some (Value.bool true, (((((((((((True ∧ (x.F = x.F ∧ (rvOk (r.wE false)))) ∧ (!ruleQ (r.wE false)) = false) ∧ (x.F = x.F ∧ (pvOk a l))) ∧ (!rightE a l) = false) ∧ (x.F = x.F ∧ (avOk x y))) ∧ (!attrsE x y) = false) ∧ (x.F = x.F ∧ (pvOk r.A r.B ∧ pvOk a l))) ∧ (!coversE r.A r.B a l) = false) ∧ (decide (l < r.C)) = false) ∧ (decide (l > r.D)) = false) ∧ (r.H == 0) = true)) := by kernel_rfl
theorem k8_f_7 (x : MX) (r : RV) (a l : Int) (y : AV) : ((mk Tryz.prog (KF x) 200).call 8 [(r.wE false).v, pv a l, y.v] (smSt 1 [some (.fam x.F)] [some false, none, none, none, some false, none, none, none, some false, some false, none, none, none, none, none, some false, none, none, none, none, none, some false, none, some false, none, none, none, none])).map (fun r => (r.1, r.2.obl)) = some (Value.bool (hasAnyE x y.P y.n r.H), ((((((((((((True ∧ (x.F = x.F ∧ (rvOk (r.wE false)))) ∧ (!ruleQ (r.wE false)) = false) ∧ (x.F = x.F ∧ (pvOk a l))) ∧ (!rightE a l) = false) ∧ (x.F = x.F ∧ (avOk x y))) ∧ (!attrsE x y) = false) ∧ (x.F = x.F ∧ (pvOk r.A r.B ∧ pvOk a l))) ∧ (!coversE r.A r.B a l) = false) ∧ (decide (l < r.C)) = false) ∧ (decide (l > r.D)) = false) ∧ (r.H == 0) = false) ∧ (x.F = x.F ∧ (legOk x y.P y.n)))) := by kernel_rfl
theorem rd8_f {x : MX} {r : RV} {a l : Int} {y : AV} (hR : rvOk r) (hq : pvOk a l) (hA : avOk x y) : Rd Tryz.prog x.F 8 [(r.wE false).v, pv a l, y.v] (.bool (fitsE x (r.wE false) a l y)) := by
  rcases Bool.eq_false_or_eq_true (!ruleQ (r.wE false)) with h0 | h0
  · skip
    rw [show (.bool (fitsE x (r.wE false) a l y) : Value) = Value.bool false from by have g_h0 : ruleQ (r.wE false) = false := (by simpa using h0); simp only [fits_f, g_h0, Bool.true_and, Bool.and_true, Bool.false_and, Bool.and_false, Bool.true_or, Bool.false_or, Bool.or_true, Bool.or_false, Bool.not_true, Bool.not_false]]
    exact Rd.run pg (KF_ok x) (k8_f_0 x r a l y) ⟨⟨trivial, ⟨rfl, by exact hR⟩⟩, h0⟩ rfl
  · skip
    rcases Bool.eq_false_or_eq_true (!rightE a l) with h1 | h1
    · skip
      rw [show (.bool (fitsE x (r.wE false) a l y) : Value) = Value.bool false from by have g_h0 : ruleQ (r.wE false) = true := (by simpa using h0); have g_h1 : coversE r.A r.B a l = false := (by unfold coversE; rw [show rightE a l = false by simpa using h1]; simp); simp only [fits_f, g_h0, g_h1, Bool.true_and, Bool.and_true, Bool.false_and, Bool.and_false, Bool.true_or, Bool.false_or, Bool.or_true, Bool.or_false, Bool.not_true, Bool.not_false]]
      exact Rd.run pg (KF_ok x) (k8_f_1 x r a l y) ⟨⟨⟨⟨trivial, ⟨rfl, by exact hR⟩⟩, h0⟩, ⟨rfl, by exact hq⟩⟩, h1⟩ rfl
    · skip
      rcases Bool.eq_false_or_eq_true (!attrsE x y) with h2 | h2
      · skip
        rw [show (.bool (fitsE x (r.wE false) a l y) : Value) = Value.bool false from by have g_h0 : ruleQ (r.wE false) = true := (by simpa using h0); have g_h2 : attrsE x y = false := (by simpa using h2); simp only [fits_f, g_h0, g_h2, Bool.true_and, Bool.and_true, Bool.false_and, Bool.and_false, Bool.true_or, Bool.false_or, Bool.or_true, Bool.or_false, Bool.not_true, Bool.not_false]]
        exact Rd.run pg (KF_ok x) (k8_f_2 x r a l y) ⟨⟨⟨⟨⟨⟨trivial, ⟨rfl, by exact hR⟩⟩, h0⟩, ⟨rfl, by exact hq⟩⟩, h1⟩, ⟨rfl, by exact hA⟩⟩, h2⟩ rfl
      · skip
        rcases Bool.eq_false_or_eq_true (!coversE r.A r.B a l) with h3 | h3
        · skip
          rw [show (.bool (fitsE x (r.wE false) a l y) : Value) = Value.bool false from by have g_h0 : ruleQ (r.wE false) = true := (by simpa using h0); have g_h2 : attrsE x y = true := (by simpa using h2); have g_h3 : coversE r.A r.B a l = false := (by simpa using h3); simp only [fits_f, g_h0, g_h2, g_h3, Bool.true_and, Bool.and_true, Bool.false_and, Bool.and_false, Bool.true_or, Bool.false_or, Bool.or_true, Bool.or_false, Bool.not_true, Bool.not_false]]
          exact Rd.run pg (KF_ok x) (k8_f_3 x r a l y) ⟨⟨⟨⟨⟨⟨⟨⟨trivial, ⟨rfl, by exact hR⟩⟩, h0⟩, ⟨rfl, by exact hq⟩⟩, h1⟩, ⟨rfl, by exact hA⟩⟩, h2⟩, ⟨rfl, by exact ⟨hR, hq⟩⟩⟩, h3⟩ rfl
        · skip
          rcases Bool.eq_false_or_eq_true (decide (l < r.C)) with h4 | h4
          · skip
            rw [show (.bool (fitsE x (r.wE false) a l y) : Value) = Value.bool false from by have g_h0 : ruleQ (r.wE false) = true := (by simpa using h0); have g_h2 : attrsE x y = true := (by simpa using h2); have g_h3 : coversE r.A r.B a l = true := (by simpa using h3); have g_h4 : decide (r.C ≤ l) = false := (by have := of_decide_eq_true h4; exact decide_eq_false (by omega)); simp only [fits_f, g_h0, g_h2, g_h3, g_h4, Bool.true_and, Bool.and_true, Bool.false_and, Bool.and_false, Bool.true_or, Bool.false_or, Bool.or_true, Bool.or_false, Bool.not_true, Bool.not_false]]
            exact Rd.run pg (KF_ok x) (k8_f_4 x r a l y) ⟨⟨⟨⟨⟨⟨⟨⟨⟨trivial, ⟨rfl, by exact hR⟩⟩, h0⟩, ⟨rfl, by exact hq⟩⟩, h1⟩, ⟨rfl, by exact hA⟩⟩, h2⟩, ⟨rfl, by exact ⟨hR, hq⟩⟩⟩, h3⟩, h4⟩ rfl
          · skip
            rcases Bool.eq_false_or_eq_true (decide (l > r.D)) with h5 | h5
            · skip
              rw [show (.bool (fitsE x (r.wE false) a l y) : Value) = Value.bool false from by have g_h0 : ruleQ (r.wE false) = true := (by simpa using h0); have g_h2 : attrsE x y = true := (by simpa using h2); have g_h3 : coversE r.A r.B a l = true := (by simpa using h3); have g_h4 : decide (r.C ≤ l) = true := (by have := of_decide_eq_false h4; exact decide_eq_true (by omega)); have g_h5 : decide (l ≤ r.D) = false := (by have := of_decide_eq_true h5; exact decide_eq_false (by omega)); simp only [fits_f, g_h0, g_h2, g_h3, g_h4, g_h5, Bool.true_and, Bool.and_true, Bool.false_and, Bool.and_false, Bool.true_or, Bool.false_or, Bool.or_true, Bool.or_false, Bool.not_true, Bool.not_false]]
              exact Rd.run pg (KF_ok x) (k8_f_5 x r a l y) ⟨⟨⟨⟨⟨⟨⟨⟨⟨⟨trivial, ⟨rfl, by exact hR⟩⟩, h0⟩, ⟨rfl, by exact hq⟩⟩, h1⟩, ⟨rfl, by exact hA⟩⟩, h2⟩, ⟨rfl, by exact ⟨hR, hq⟩⟩⟩, h3⟩, h4⟩, h5⟩ rfl
            · skip
              rcases Bool.eq_false_or_eq_true (r.H == 0) with h6 | h6
              · skip
                rw [show (.bool (fitsE x (r.wE false) a l y) : Value) = Value.bool true from by have g_h0 : ruleQ (r.wE false) = true := (by simpa using h0); have g_h2 : attrsE x y = true := (by simpa using h2); have g_h3 : coversE r.A r.B a l = true := (by simpa using h3); have g_h4 : decide (r.C ≤ l) = true := (by have := of_decide_eq_false h4; exact decide_eq_true (by omega)); have g_h5 : decide (l ≤ r.D) = true := (by have := of_decide_eq_false h5; exact decide_eq_true (by omega)); simp only [fits_f, g_h0, g_h2, g_h3, g_h4, g_h5, h6, Bool.true_and, Bool.and_true, Bool.false_and, Bool.and_false, Bool.true_or, Bool.false_or, Bool.or_true, Bool.or_false, Bool.not_true, Bool.not_false]]
                exact Rd.run pg (KF_ok x) (k8_f_6 x r a l y) ⟨⟨⟨⟨⟨⟨⟨⟨⟨⟨⟨trivial, ⟨rfl, by exact hR⟩⟩, h0⟩, ⟨rfl, by exact hq⟩⟩, h1⟩, ⟨rfl, by exact hA⟩⟩, h2⟩, ⟨rfl, by exact ⟨hR, hq⟩⟩⟩, h3⟩, h4⟩, h5⟩, h6⟩ rfl
              · skip
                rw [show (.bool (fitsE x (r.wE false) a l y) : Value) = Value.bool (hasAnyE x y.P y.n r.H) from by have g_h0 : ruleQ (r.wE false) = true := (by simpa using h0); have g_h2 : attrsE x y = true := (by simpa using h2); have g_h3 : coversE r.A r.B a l = true := (by simpa using h3); have g_h4 : decide (r.C ≤ l) = true := (by have := of_decide_eq_false h4; exact decide_eq_true (by omega)); have g_h5 : decide (l ≤ r.D) = true := (by have := of_decide_eq_false h5; exact decide_eq_true (by omega)); simp only [fits_f, g_h0, g_h2, g_h3, g_h4, g_h5, h6, Bool.true_and, Bool.and_true, Bool.false_and, Bool.and_false, Bool.true_or, Bool.false_or, Bool.or_true, Bool.or_false, Bool.not_true, Bool.not_false]]
                exact Rd.run pg (KF_ok x) (k8_f_7 x r a l y) ⟨⟨⟨⟨⟨⟨⟨⟨⟨⟨⟨⟨trivial, ⟨rfl, by exact hR⟩⟩, h0⟩, ⟨rfl, by exact hq⟩⟩, h1⟩, ⟨rfl, by exact hA⟩⟩, h2⟩, ⟨rfl, by exact ⟨hR, hq⟩⟩⟩, h3⟩, h4⟩, h5⟩, h6⟩, ⟨rfl, by exact hA.1⟩⟩ rfl
end
end ob
end Go.Proofs.YthpoeegoankpoaaGreat
namespace Go.Proofs.YthpoeegoankpoaaGreat
open Go.ChangeShapes Go.WideShapes Go.ChangeAt Go.RowKit Go.Cln
namespace ob
set_option linter.unusedVariables false
noncomputable section
def condC : Code → Code
  | .cond _ a _ => a
  | .seq _ y => condC y
  | c => c
def fstC : Code → Code
  | .seq x _ => x
  | c => c
def b8 : Code := ((Tryz.prog.funcs[8]?).bind (·.body)).getD .skip
def l8 : Code := loopB Tryz.prog 8 0
def e8 : Code := dropC 2 (condC (fstC (dropC 3 b8)))
theorem fn8 : (Tryz.prog.funcs[8]?).map (fun f => (f.body, f.results.toList, f.ntmps)) = some (some b8, [.tmp 6], 72) := by kernel_rfl
noncomputable abbrev a8 (r : RV) (a l : Int) (y : AV) (g : Bool) : List Value := [(r.wE true).v, pv a l, y.v]
noncomputable def z8 (x : MX) (r : RV) (a l : Int) (y : AV) (g : Bool) : St := { smSt 1 [some (.fam x.F)] [] with tmps := a8 r a l y g ++ List.replicate (72 - (a8 r a l y g).length) undef, defers := [] }
noncomputable def tm8 (v : VF) (r : RV) (a l : Int) (y : AV) (g : Bool) (i : Nat) : List Value := ((r.wE true).v :: pv a l :: y.v :: .pointer (some ⟨1, 0, none⟩) :: .pointer (some ⟨2, 0, none⟩) :: .pointer (some ⟨3, 0, none⟩) :: v 6 :: .bool g :: .int .i64 (nI i) :: vs v 9 63 [])
theorem tm8_dead {v : VF} {r : RV} {a l : Int} {y : AV} {g : Bool} {i : Nat} {B : Nat → Bool} (h : ∀ i, DeadV (v i)) (hB : ∀ i, ((Nat.ble 0 i && Nat.ble i 5) || (Nat.ble 7 i && Nat.ble i 8)) = true → B i = true) : deadT B 0 (tm8 v r a l y g i) :=
  ⟨fun e => absurd e (by rw [hB 0 rfl]; decide), ⟨fun e => absurd e (by rw [hB 1 rfl]; decide), ⟨fun e => absurd e (by rw [hB 2 rfl]; decide), ⟨fun e => absurd e (by rw [hB 3 rfl]; decide), ⟨fun e => absurd e (by rw [hB 4 rfl]; decide), ⟨fun e => absurd e (by rw [hB 5 rfl]; decide), ⟨fun _ => h 6, ⟨fun e => absurd e (by rw [hB 7 rfl]; decide), ⟨fun e => absurd e (by rw [hB 8 rfl]; decide), deadT_vs h 63 (trivial)⟩⟩⟩⟩⟩⟩⟩⟩⟩
noncomputable def h8 (x : MX) (r : RV) (a l : Int) (y : AV) (g : Bool) : Nat → Option Ob := fun i => match i with
  | 0 => some (.fam x.F)
  | 1 => some (.cells (.lit (r.wE true).l) 26)
  | 2 => some (.cells (.lit [.int .u32 a, .int .u8 l]) 24)
  | 3 => some (.cells (.lit y.l) 33)
  | _ => none
theorem h8_ok (x : MX) (r : RV) (a l : Int) (y : AV) (g : Bool) : Go.Cln.RowsIn (h8 x r a l y g) := by
  intro b n' w' g' t h
  unfold h8 at h
  split at h <;> first | (cases h; done) | cases h
noncomputable def s8 (x : MX) (r : RV) (a l : Int) (y : AV) (g : Bool) (i : Nat) (v : VF) : St := ⟨tm8 v r a l y g i, [], Tr.rebuild (h8 x r a l y g) 4, 4, 1, [], fun _ => false, True, []⟩
noncomputable def go8 (K : Given) (c : Code) (s : St) (o : List (Option Bool)) : Option (Exit × St) := (mk Tryz.prog K 200).code 8 none c { s with obl := True, orc := o }
noncomputable def gd8 (K : Given) (s : St) (o : List (Option Bool)) : Option (St × Code) := down (mk Tryz.prog K 200) 8 none [2, 2, 2, 3, 2, 1, 2, 3, 2, 0] b8 { s with obl := True, orc := o }
def WD8 (i : Nat) : Bool := Nat.beq i 6 || (Nat.ble 10 i && Nat.ble i 12) || (Nat.ble 14 i && Nat.ble i 17) || (Nat.ble 19 i && Nat.ble i 22) || (Nat.ble 25 i && Nat.ble i 42)
noncomputable def VD8 (v : VF) : VF := fun i => match Nat.beq i 9 with
  | true => .agg #[junk, junk, junk, junk, junk, junk, junk, junk, junk, junk, junk, junk, junk, junk, junk]
  | false => match Nat.beq i 13 with
  | true => .agg #[junk, junk]
  | false => match Nat.beq i 18 with
  | true => .agg #[junk, junk, junk, junk, junk, junk, junk, junk]
  | false => match Nat.beq i 23 with
  | true => .agg #[junk, junk]
  | false => match Nat.beq i 24 with
  | true => .agg #[junk, junk]
  | false => match WD8 i with
  | true => junk
  | false => v i
def BD8 (i : Nat) : Bool := ((Nat.ble 0 i && Nat.ble i 5) || (Nat.ble 7 i && Nat.ble i 8)) || WD8 i || Nat.beq i 9 || Nat.beq i 13 || Nat.beq i 18 || Nat.beq i 23 || Nat.beq i 24
theorem VD8_dead {v : VF} (h : ∀ i, DeadV (v i)) (i : Nat) : DeadV (VD8 v i) := by
  unfold VD8
  split
  · exact ⟨rfl, fun _ => rfl, fun _ => rfl⟩
  split
  · exact ⟨rfl, fun _ => rfl, fun _ => rfl⟩
  split
  · exact ⟨rfl, fun _ => rfl, fun _ => rfl⟩
  split
  · exact ⟨rfl, fun _ => rfl, fun _ => rfl⟩
  split
  · exact ⟨rfl, fun _ => rfl, fun _ => rfl⟩
  split
  · exact DeadV.junk
  · exact h i
theorem lvD8 (i : Nat) (h : ((Nat.ble 0 i && Nat.ble i 5) || (Nat.ble 7 i && Nat.ble i 8)) = true) : BD8 i = true := by
  unfold BD8
  simp only [Bool.or_eq_true] at h ⊢
  refine .inl ?_
  refine .inl ?_
  refine .inl ?_
  refine .inl ?_
  refine .inl ?_
  exact .inl h
def WX8 (i : Nat) : Bool := (Nat.ble 43 i && Nat.ble i 47)
noncomputable def VX8 (v : VF) : VF := fun i => match WX8 i with
  | true => junk
  | false => v i
def BX8 (i : Nat) : Bool := ((Nat.ble 0 i && Nat.ble i 5) || (Nat.ble 7 i && Nat.ble i 8)) || WX8 i
theorem VX8_dead {v : VF} (h : ∀ i, DeadV (v i)) (i : Nat) : DeadV (VX8 v i) := by
  unfold VX8
  split
  · exact DeadV.junk
  · exact h i
theorem lvX8 (i : Nat) (h : ((Nat.ble 0 i && Nat.ble i 5) || (Nat.ble 7 i && Nat.ble i 8)) = true) : BX8 i = true := by
  unfold BX8
  simp only [Bool.or_eq_true] at h ⊢
  exact .inl h
end
end ob
end Go.Proofs.YthpoeegoankpoaaGreat
namespace Go.Proofs.YthpoeegoankpoaaGreat
open Go.ChangeShapes Go.WideShapes Go.ChangeAt Go.RowKit Go.Cln
namespace ob
set_option linter.unusedVariables false
noncomputable section
def WE8 (i : Nat) : Bool := (Nat.ble 61 i && Nat.ble i 62)
noncomputable def VE8 (v : VF) : VF := fun i => match WE8 i with
  | true => junk
  | false => v i
def BE8 (i : Nat) : Bool := ((Nat.ble 0 i && Nat.ble i 5) || (Nat.ble 7 i && Nat.ble i 8)) || WE8 i
theorem VE8_dead {v : VF} (h : ∀ i, DeadV (v i)) (i : Nat) : DeadV (VE8 v i) := by
  unfold VE8
  split
  · exact DeadV.junk
  · exact h i
theorem lvE8 (i : Nat) (h : ((Nat.ble 0 i && Nat.ble i 5) || (Nat.ble 7 i && Nat.ble i 8)) = true) : BE8 i = true := by
  unfold BE8
  simp only [Bool.or_eq_true] at h ⊢
  exact .inl h
def WT8 (i : Nat) : Bool := (Nat.ble 43 i && Nat.ble i 51) || Nat.beq i 60
noncomputable def VT8 (v : VF) : VF := fun i => match Nat.beq i 52 with
  | true => undef
  | false => match Nat.beq i 53 with
  | true => undef
  | false => match Nat.beq i 54 with
  | true => undef
  | false => match Nat.beq i 55 with
  | true => undef
  | false => match Nat.beq i 56 with
  | true => undef
  | false => match Nat.beq i 57 with
  | true => undef
  | false => match Nat.beq i 58 with
  | true => undef
  | false => match Nat.beq i 59 with
  | true => undef
  | false => match WT8 i with
  | true => junk
  | false => v i
def BT8 (i : Nat) : Bool := ((Nat.ble 0 i && Nat.ble i 5) || (Nat.ble 7 i && Nat.ble i 8)) || WT8 i || Nat.beq i 52 || Nat.beq i 53 || Nat.beq i 54 || Nat.beq i 55 || Nat.beq i 56 || Nat.beq i 57 || Nat.beq i 58 || Nat.beq i 59
theorem VT8_dead {v : VF} (h : ∀ i, DeadV (v i)) (i : Nat) : DeadV (VT8 v i) := by
  unfold VT8
  split
  · exact ⟨rfl, fun _ => rfl, fun _ => rfl⟩
  split
  · exact ⟨rfl, fun _ => rfl, fun _ => rfl⟩
  split
  · exact ⟨rfl, fun _ => rfl, fun _ => rfl⟩
  split
  · exact ⟨rfl, fun _ => rfl, fun _ => rfl⟩
  split
  · exact ⟨rfl, fun _ => rfl, fun _ => rfl⟩
  split
  · exact ⟨rfl, fun _ => rfl, fun _ => rfl⟩
  split
  · exact ⟨rfl, fun _ => rfl, fun _ => rfl⟩
  split
  · exact ⟨rfl, fun _ => rfl, fun _ => rfl⟩
  split
  · exact DeadV.junk
  · exact h i
theorem lvT8 (i : Nat) (h : ((Nat.ble 0 i && Nat.ble i 5) || (Nat.ble 7 i && Nat.ble i 8)) = true) : BT8 i = true := by
  unfold BT8
  simp only [Bool.or_eq_true] at h ⊢
  refine .inl ?_
  refine .inl ?_
  refine .inl ?_
  refine .inl ?_
  refine .inl ?_
  refine .inl ?_
  refine .inl ?_
  refine .inl ?_
  exact .inl h
def WF8 (i : Nat) : Bool := (Nat.ble 43 i && Nat.ble i 60)
noncomputable def VF8 (v : VF) : VF := fun i => match WF8 i with
  | true => junk
  | false => v i
def BF8 (i : Nat) : Bool := ((Nat.ble 0 i && Nat.ble i 5) || (Nat.ble 7 i && Nat.ble i 8)) || WF8 i
theorem VF8_dead {v : VF} (h : ∀ i, DeadV (v i)) (i : Nat) : DeadV (VF8 v i) := by
  unfold VF8
  split
  · exact DeadV.junk
  · exact h i
theorem lvF8 (i : Nat) (h : ((Nat.ble 0 i && Nat.ble i 5) || (Nat.ble 7 i && Nat.ble i 8)) = true) : BF8 i = true := by
  unfold BF8
  simp only [Bool.or_eq_true] at h ⊢
  exact .inl h
def pD_8 (x : MX) (r : RV) (a l : Int) (y : AV) (g : Bool) (i : Nat) : Prop := ((((((((((True ∧ x.F = x.F ∧ (rvOk (r.wE true))) ∧ (!ruleQ (r.wE true)) = false) ∧ x.F = x.F ∧ (pvOk a l)) ∧ (!rightE a l) = false) ∧ x.F = x.F ∧ (avOk x y)) ∧ (!attrsE x y) = false) ∧ x.F = x.F ∧ (pvOk r.A r.B ∧ pvOk a l)) ∧ (!coversE r.A r.B a l) = false) ∧ (decide (l < r.C)) = false) ∧ (decide (l > r.D)) = false)
def pX_8 (x : MX) (r : RV) (a l : Int) (y : AV) (g : Bool) (i : Nat) : Prop := (True ∧ decide (nI i < nI y.k) = false)
def pN0_8 (x : MX) (r : RV) (a l : Int) (y : AV) (g : Bool) (i : Nat) : Prop := ((True ∧ x.F = x.F ∧ (rvOk (r.wE true))) ∧ (!ruleQ (r.wE true)) = true)
def pN1_8 (x : MX) (r : RV) (a l : Int) (y : AV) (g : Bool) (i : Nat) : Prop := ((((True ∧ x.F = x.F ∧ (rvOk (r.wE true))) ∧ (!ruleQ (r.wE true)) = false) ∧ x.F = x.F ∧ (pvOk a l)) ∧ (!rightE a l) = true)
def pN2_8 (x : MX) (r : RV) (a l : Int) (y : AV) (g : Bool) (i : Nat) : Prop := ((((((True ∧ x.F = x.F ∧ (rvOk (r.wE true))) ∧ (!ruleQ (r.wE true)) = false) ∧ x.F = x.F ∧ (pvOk a l)) ∧ (!rightE a l) = false) ∧ x.F = x.F ∧ (avOk x y)) ∧ (!attrsE x y) = true)
def pN3_8 (x : MX) (r : RV) (a l : Int) (y : AV) (g : Bool) (i : Nat) : Prop := ((((((((True ∧ x.F = x.F ∧ (rvOk (r.wE true))) ∧ (!ruleQ (r.wE true)) = false) ∧ x.F = x.F ∧ (pvOk a l)) ∧ (!rightE a l) = false) ∧ x.F = x.F ∧ (avOk x y)) ∧ (!attrsE x y) = false) ∧ x.F = x.F ∧ (pvOk r.A r.B ∧ pvOk a l)) ∧ (!coversE r.A r.B a l) = true)
def pN4_8 (x : MX) (r : RV) (a l : Int) (y : AV) (g : Bool) (i : Nat) : Prop := (((((((((True ∧ x.F = x.F ∧ (rvOk (r.wE true))) ∧ (!ruleQ (r.wE true)) = false) ∧ x.F = x.F ∧ (pvOk a l)) ∧ (!rightE a l) = false) ∧ x.F = x.F ∧ (avOk x y)) ∧ (!attrsE x y) = false) ∧ x.F = x.F ∧ (pvOk r.A r.B ∧ pvOk a l)) ∧ (!coversE r.A r.B a l) = false) ∧ (decide (l < r.C)) = true)
def pN5_8 (x : MX) (r : RV) (a l : Int) (y : AV) (g : Bool) (i : Nat) : Prop := ((((((((((True ∧ x.F = x.F ∧ (rvOk (r.wE true))) ∧ (!ruleQ (r.wE true)) = false) ∧ x.F = x.F ∧ (pvOk a l)) ∧ (!rightE a l) = false) ∧ x.F = x.F ∧ (avOk x y)) ∧ (!attrsE x y) = false) ∧ x.F = x.F ∧ (pvOk r.A r.B ∧ pvOk a l)) ∧ (!coversE r.A r.B a l) = false) ∧ (decide (l < r.C)) = false) ∧ (decide (l > r.D)) = true)
theorem kD8 (x : MX) (r : RV) (a l : Int) (y : AV) : (gd8 (KF x) (z8 x r a l y false) [some false, none, none, none, some false, none, none, none, some false, some false, none, none, none, none, none, some false, none, none, none, none, none, some false, none]).map (fun u_ => (u_.2, u_.1.obl, seenInT BD8 u_.1 (s8 x r a l y false 0 (VD8 vU)) [0, 1, 2, 3])) = some (.loop l8, pD_8 x r a l y false 0, seenAsT BD8 (s8 x r a l y false 0 (VD8 vU)) [0, 1, 2, 3] 4) := by kernel_rfl
theorem kN0_8 (x : MX) (r : RV) (a l : Int) (y : AV) (g : Bool) : ((mk Tryz.prog (KF x) 200).call 8 (a8 r a l y g) (smSt 1 [some (.fam x.F)] [some true, none, none, none, none, none, none, none, none])).map (fun r => (r.1, r.2.obl)) = some (Value.bool false, pN0_8 x r a l y g 0) := by kernel_rfl
theorem kN1_8 (x : MX) (r : RV) (a l : Int) (y : AV) (g : Bool) : ((mk Tryz.prog (KF x) 200).call 8 (a8 r a l y g) (smSt 1 [some (.fam x.F)] [some false, none, none, none, some true, none, none, none, none])).map (fun r => (r.1, r.2.obl)) = some (Value.bool false, pN1_8 x r a l y g 0) := by kernel_rfl
theorem kN2_8 (x : MX) (r : RV) (a l : Int) (y : AV) (g : Bool) : ((mk Tryz.prog (KF x) 200).call 8 (a8 r a l y g) (smSt 1 [some (.fam x.F)] [some false, none, none, none, some false, none, none, none, some true])).map (fun r => (r.1, r.2.obl)) = some (Value.bool false, pN2_8 x r a l y g 0) := by kernel_rfl
theorem kN3_8 (x : MX) (r : RV) (a l : Int) (y : AV) (g : Bool) : ((mk Tryz.prog (KF x) 200).call 8 (a8 r a l y g) (smSt 1 [some (.fam x.F)] [some false, none, none, none, some false, none, none, none, some false, some true, none, none, none, none, none, none, none, none, none, none, none, none])).map (fun r => (r.1, r.2.obl)) = some (Value.bool false, pN3_8 x r a l y g 0) := by kernel_rfl
theorem kN4_8 (x : MX) (r : RV) (a l : Int) (y : AV) (g : Bool) : ((mk Tryz.prog (KF x) 200).call 8 (a8 r a l y g) (smSt 1 [some (.fam x.F)] [some false, none, none, none, some false, none, none, none, some false, some false, none, none, none, none, none, some true, none, none, none, none, none, none])).map (fun r => (r.1, r.2.obl)) = some (Value.bool false, pN4_8 x r a l y g 0) := by kernel_rfl
theorem kN5_8 (x : MX) (r : RV) (a l : Int) (y : AV) (g : Bool) : ((mk Tryz.prog (KF x) 200).call 8 (a8 r a l y g) (smSt 1 [some (.fam x.F)] [some false, none, none, none, some false, none, none, none, some false, some false, none, none, none, none, none, some false, none, none, none, none, none, some true])).map (fun r => (r.1, r.2.obl)) = some (Value.bool false, pN5_8 x r a l y g 0) := by kernel_rfl
theorem kX8 (x : MX) (r : RV) (a l : Int) (y : AV) (g : Bool) (i : Nat) (v : VF) : (go8 (KF x) l8 (s8 x r a l y g i v) [some false]).map (fun u_ => (u_.1, u_.2.obl, seenInT BX8 u_.2 (s8 x r a l y g i (VX8 v)) [0, 1, 2, 3])) = some (.exit 0, pX_8 x r a l y g i, seenAsT BX8 (s8 x r a l y g i (VX8 v)) [0, 1, 2, 3] 4) := by kernel_rfl
theorem okD8 (x : MX) (r : RV) (a l : Int) (y : AV) (g : Bool) (i : Nat) (v : VF) : picOkT BD8 (z8 x r a l y g) (s8 x r a l y g i (VD8 v)) [0, 1, 2, 3] = true := by kernel_rfl
theorem okX8 (x : MX) (r : RV) (a l : Int) (y : AV) (g : Bool) (i : Nat) (v : VF) : picOkT BX8 (z8 x r a l y g) (s8 x r a l y g i (VX8 v)) [0, 1, 2, 3] = true := by kernel_rfl
theorem kT8 (x : MX) (r : RV) (a l : Int) (y : AV) (i : Nat) (v : VF) : (go8 (KF x) l8 (s8 x r a l y true i v) [some true, none, none, none, none, none, none, none, none, none, some true]).map (fun u_ => (u_.1, u_.2.obl, seenInT BT8 u_.2 (s8 x r a l y true (i + 1) (VT8 v)) [0, 1, 2, 3])) = some (.normal, ((True ∧ decide (nI i < nI y.k) = true) ∧ IntKind.i64.wrap (nI i + 1) = nI i + 1), seenAsT BT8 (s8 x r a l y true (i + 1) (VT8 v)) [0, 1, 2, 3] 4) := by kernel_rfl
theorem kF8 (x : MX) (r : RV) (a l : Int) (y : AV) (i : Nat) (v : VF) : (go8 (KF x) l8 (s8 x r a l y false i v) [some true, none, none, none, none, some true, none, some true, none, none, none, none, some true]).map (fun u_ => (u_.1, u_.2.obl, seenInT BF8 u_.2 (s8 x r a l y ((x.U y.Q).getD (0 + i * 1) 0 == r.G) (i + 1) (VF8 v)) [0, 1, 2, 3])) = some (.normal, ((((True ∧ decide (nI i < nI y.k) = true) ∧ 0 ≤ nI i ∧ nI i < nI y.k) ∧ 0 + i * 1 < (x.U y.Q).length) ∧ IntKind.i64.wrap (nI i + 1) = nI i + 1), seenAsT BF8 (s8 x r a l y ((x.U y.Q).getD (0 + i * 1) 0 == r.G) (i + 1) (VF8 v)) [0, 1, 2, 3] 4) := by kernel_rfl
theorem okT8 (x : MX) (r : RV) (a l : Int) (y : AV) (i : Nat) (v : VF) : picOkT BT8 (z8 x r a l y false) (s8 x r a l y true i (VT8 v)) [0, 1, 2, 3] = true := by kernel_rfl
theorem okF8 (x : MX) (r : RV) (a l : Int) (y : AV) (i : Nat) (v : VF) (g : Bool) : picOkT BF8 (z8 x r a l y false) (s8 x r a l y g i (VF8 v)) [0, 1, 2, 3] = true := by kernel_rfl
noncomputable def cA8 : Code := dropC 4 b8
theorem up8 (x : MX) (r : RV) (a l : Int) (y : AV) (Q_ : Exit → St → Prop) : upQ Tryz.prog none (z8 x r a l y false) [2, 2, 2, 3, 2, 1, 2, 3, 2, 0] b8 Q_ = fun e s => (fun e s => (e = .normal ∧ StepG Tryz.prog none (z8 x r a l y false) e8 s (fun e s => (e = .normal ∧ StepG Tryz.prog none (z8 x r a l y false) cA8 s Q_) ∨ (e ≠ .normal ∧ Q_ e s))) ∨ (e ≠ .normal ∧ (fun e s => (e = .normal ∧ StepG Tryz.prog none (z8 x r a l y false) cA8 s Q_) ∨ (e ≠ .normal ∧ Q_ e s)) e s)) (blockOut 0 e) s := by kernel_rfl
theorem kE8f (x : MX) (r : RV) (a l : Int) (y : AV) (i : Nat) (v : VF) : (go8 (KF x) e8 (s8 x r a l y false i v) [none]).bind (fun u_ => (results1 Tryz.prog u_.2 [.tmp 6]).map fun q => (u_.1, q.2.obl, u_.2.defers, oneOf q.1)) = some (.ret, True, [], .bool false) := by kernel_rfl
theorem kE8t (x : MX) (r : RV) (a l : Int) (y : AV) (i : Nat) (v : VF) : (go8 (KF x) e8 (s8 x r a l y true i v) [none]).map (fun u_ => (u_.1, u_.2.obl, seenInT BE8 u_.2 (s8 x r a l y true i (VE8 v)) [0, 1, 2, 3])) = some (.normal, True, seenAsT BE8 (s8 x r a l y true i (VE8 v)) [0, 1, 2, 3] 4) := by kernel_rfl
theorem okE8t (x : MX) (r : RV) (a l : Int) (y : AV) (i : Nat) (v : VF) : picOkT BE8 (z8 x r a l y false) (s8 x r a l y true i (VE8 v)) [0, 1, 2, 3] = true := by kernel_rfl
theorem kA8t (x : MX) (r : RV) (a l : Int) (y : AV) (i : Nat) (v : VF) : (go8 (KF x) cA8 (s8 x r a l y true i v) [some true, none, none, none, none]).bind (fun u_ => (results1 Tryz.prog u_.2 [.tmp 6]).map fun q => (u_.1, q.2.obl, u_.2.defers, oneOf q.1)) = some (.ret, (True ∧ ((r.wE true).H == 0) = true), [], .bool true) := by kernel_rfl
theorem kA8f (x : MX) (r : RV) (a l : Int) (y : AV) (i : Nat) (v : VF) : (go8 (KF x) cA8 (s8 x r a l y true i v) [some false, none, none, none, none]).bind (fun u_ => (results1 Tryz.prog u_.2 [.tmp 6]).map fun q => (u_.1, q.2.obl, u_.2.defers, oneOf q.1)) = some (.ret, ((True ∧ ((r.wE true).H == 0) = false) ∧ x.F = x.F ∧ legOk x y.P y.n), [], .bool (hasAnyE x y.P y.n (r.wE true).H)) := by kernel_rfl
end
end ob
end Go.Proofs.YthpoeegoankpoaaGreat
namespace Go.Proofs.YthpoeegoankpoaaGreat
open Go.ChangeShapes Go.WideShapes Go.ChangeAt Go.RowKit Go.Cln
namespace ob
set_option linter.unusedVariables false
noncomputable section
noncomputable def fndE (x : MX) (Q : Nat) (w : Int) : Nat → Bool
  | 0 => false
  | i + 1 => fndE x Q w i || ((x.U Q).getD (0 + i * 1) 0 == w)
theorem fnd_has {x : MX} {Q : Nat} {w : Int} : ∀ n, fndE x Q w n = hasE x Q n w
  | 0 => rfl
  | n + 1 => by
    unfold fndE
    rw [fnd_has n]
    unfold hasE isntE
    simp only [allB, Bool.not_and, Bool.not_not]
    rw [Bool.beq_comm_int w]
theorem fits_t {x : MX} {r : RV} {a l : Int} {y : AV} : fitsE x (r.wE true) a l y = (ruleQ (r.wE true) && attrsE x y && coversE r.A r.B a l && (decide (r.C ≤ l) && decide (l ≤ r.D)) && (false || hasE x y.Q y.k r.G) && ((r.H == 0) || hasAnyE x y.P y.n r.H)) := rfl
theorem round8 {x : MX} {r : RV} {a l : Int} {y : AV} (hA : avOk x y) {i : Nat} (hi : i < y.k) {v : VF} (hv : ∀ j, DeadV (v j)) : StepG Tryz.prog none (z8 x r a l y false) l8 (s8 x r a l y (fndE x y.Q r.G i) i v) fun ex s => ex = .normal ∧ ∃ v', (∀ j, DeadV (v' j)) ∧ s = s8 x r a l y (fndE x y.Q r.G (i + 1)) (i + 1) v' := by
  obtain ⟨_, q1, q2⟩ := hA
  cases hg : fndE x y.Q r.G i with
  | true =>
    have e : fndE x y.Q r.G (i + 1) = true := by unfold fndE; rw [hg]; rfl
    rw [e]
    refine (StepG.stdT (s0 := z8 x r a l y false) (rd := none) pg (KF_ok x) (kT8 x r a l y i v) ⟨⟨trivial, decide_eq_true (by unfold nI; omega)⟩, by rw [IntKind.wrap_i64]; unfold nI; omega⟩ (show 1 ≤ 4 by decide) (tm8_dead (VT8_dead hv) lvT8) (h8_ok x r a l y true) rfl (okT8 x r a l y (i + 1) v)).mono ?_
    rintro ex s_ ⟨rfl, rfl⟩
    exact ⟨rfl, _, VT8_dead hv, rfl⟩
  | false =>
    have e : fndE x y.Q r.G (i + 1) = ((x.U y.Q).getD (0 + i * 1) 0 == r.G) := by
      show (fndE x y.Q r.G i || _) = _
      rw [hg, Bool.false_or]
    rw [e]
    refine (StepG.stdT (s0 := z8 x r a l y false) (rd := none) pg (KF_ok x) (kF8 x r a l y i v) ⟨⟨⟨⟨trivial, decide_eq_true (by unfold nI; omega)⟩, by unfold nI; omega⟩, by omega⟩, by rw [IntKind.wrap_i64]; unfold nI; omega⟩ (show 1 ≤ 4 by decide) (tm8_dead (VF8_dead hv) lvF8) (h8_ok x r a l y ((x.U y.Q).getD (0 + i * 1) 0 == r.G)) rfl (okF8 x r a l y (i + 1) v _)).mono ?_
    rintro ex s_ ⟨rfl, rfl⟩
    exact ⟨rfl, _, VF8_dead hv, rfl⟩
theorem exit8 {x : MX} {r : RV} {a l : Int} {y : AV} (g : Bool) {v : VF} (hv : ∀ j, DeadV (v j)) : StepG Tryz.prog none (z8 x r a l y false) l8 (s8 x r a l y g y.k v) fun ex s => ex = .exit 0 ∧ ∃ v', (∀ j, DeadV (v' j)) ∧ s = s8 x r a l y g y.k v' := by
  refine (StepG.stdT (s0 := z8 x r a l y false) (rd := none) pg (KF_ok x) (kX8 x r a l y g y.k v) ⟨trivial, decide_eq_false (by unfold nI; omega)⟩ (show 1 ≤ 4 by decide) (tm8_dead (VX8_dead hv) lvX8) (h8_ok x r a l y g) rfl (okX8 x r a l y g y.k v)).mono ?_
  rintro ex s_ ⟨rfl, rfl⟩
  exact ⟨rfl, _, VX8_dead hv, rfl⟩
theorem rd8_t {x : MX} {r : RV} {a l : Int} {y : AV} (hR : rvOk r) (hq : pvOk a l) (hA : avOk x y) : Rd Tryz.prog x.F 8 (a8 r a l y false) (.bool (fitsE x (r.wE true) a l y)) := by
  rcases Bool.eq_false_or_eq_true (!ruleQ (r.wE true)) with e0 | e0
  · rw [show (Value.bool (fitsE x (r.wE true) a l y)) = Value.bool false from by have g_e0 : ruleQ (r.wE true) = false := (by simpa using e0); simp only [fits_t, g_e0, Bool.true_and, Bool.and_true, Bool.false_and, Bool.and_false, Bool.true_or, Bool.false_or, Bool.or_true, Bool.or_false, Bool.not_true, Bool.not_false]]
    exact Rd.run pg (KF_ok x) (kN0_8 x r a l y false) (⟨⟨trivial, ⟨rfl, by exact hR⟩⟩, e0⟩) rfl
  rcases Bool.eq_false_or_eq_true (!rightE a l) with e1 | e1
  · rw [show (Value.bool (fitsE x (r.wE true) a l y)) = Value.bool false from by have g_e0 : ruleQ (r.wE true) = true := (by simpa using e0); have g_e1 : coversE r.A r.B a l = false := (by unfold coversE; rw [show rightE a l = false by simpa using e1]; simp); simp only [fits_t, g_e0, g_e1, Bool.true_and, Bool.and_true, Bool.false_and, Bool.and_false, Bool.true_or, Bool.false_or, Bool.or_true, Bool.or_false, Bool.not_true, Bool.not_false]]
    exact Rd.run pg (KF_ok x) (kN1_8 x r a l y false) (⟨⟨⟨⟨trivial, ⟨rfl, by exact hR⟩⟩, e0⟩, ⟨rfl, by exact hq⟩⟩, e1⟩) rfl
  rcases Bool.eq_false_or_eq_true (!attrsE x y) with e2 | e2
  · rw [show (Value.bool (fitsE x (r.wE true) a l y)) = Value.bool false from by have g_e0 : ruleQ (r.wE true) = true := (by simpa using e0); have g_e2 : attrsE x y = false := (by simpa using e2); simp only [fits_t, g_e0, g_e2, Bool.true_and, Bool.and_true, Bool.false_and, Bool.and_false, Bool.true_or, Bool.false_or, Bool.or_true, Bool.or_false, Bool.not_true, Bool.not_false]]
    exact Rd.run pg (KF_ok x) (kN2_8 x r a l y false) (⟨⟨⟨⟨⟨⟨trivial, ⟨rfl, by exact hR⟩⟩, e0⟩, ⟨rfl, by exact hq⟩⟩, e1⟩, ⟨rfl, by exact hA⟩⟩, e2⟩) rfl
  rcases Bool.eq_false_or_eq_true (!coversE r.A r.B a l) with e3 | e3
  · rw [show (Value.bool (fitsE x (r.wE true) a l y)) = Value.bool false from by have g_e0 : ruleQ (r.wE true) = true := (by simpa using e0); have g_e2 : attrsE x y = true := (by simpa using e2); have g_e3 : coversE r.A r.B a l = false := (by simpa using e3); simp only [fits_t, g_e0, g_e2, g_e3, Bool.true_and, Bool.and_true, Bool.false_and, Bool.and_false, Bool.true_or, Bool.false_or, Bool.or_true, Bool.or_false, Bool.not_true, Bool.not_false]]
    exact Rd.run pg (KF_ok x) (kN3_8 x r a l y false) (⟨⟨⟨⟨⟨⟨⟨⟨trivial, ⟨rfl, by exact hR⟩⟩, e0⟩, ⟨rfl, by exact hq⟩⟩, e1⟩, ⟨rfl, by exact hA⟩⟩, e2⟩, ⟨rfl, by exact ⟨hR, hq⟩⟩⟩, e3⟩) rfl
  rcases Bool.eq_false_or_eq_true (decide (l < r.C)) with e4 | e4
  · rw [show (Value.bool (fitsE x (r.wE true) a l y)) = Value.bool false from by have g_e0 : ruleQ (r.wE true) = true := (by simpa using e0); have g_e2 : attrsE x y = true := (by simpa using e2); have g_e3 : coversE r.A r.B a l = true := (by simpa using e3); have g_e4 : decide (r.C ≤ l) = false := (by have := of_decide_eq_true e4; exact decide_eq_false (by omega)); simp only [fits_t, g_e0, g_e2, g_e3, g_e4, Bool.true_and, Bool.and_true, Bool.false_and, Bool.and_false, Bool.true_or, Bool.false_or, Bool.or_true, Bool.or_false, Bool.not_true, Bool.not_false]]
    exact Rd.run pg (KF_ok x) (kN4_8 x r a l y false) (⟨⟨⟨⟨⟨⟨⟨⟨⟨trivial, ⟨rfl, by exact hR⟩⟩, e0⟩, ⟨rfl, by exact hq⟩⟩, e1⟩, ⟨rfl, by exact hA⟩⟩, e2⟩, ⟨rfl, by exact ⟨hR, hq⟩⟩⟩, e3⟩, e4⟩) rfl
  rcases Bool.eq_false_or_eq_true (decide (l > r.D)) with e5 | e5
  · rw [show (Value.bool (fitsE x (r.wE true) a l y)) = Value.bool false from by have g_e0 : ruleQ (r.wE true) = true := (by simpa using e0); have g_e2 : attrsE x y = true := (by simpa using e2); have g_e3 : coversE r.A r.B a l = true := (by simpa using e3); have g_e4 : decide (r.C ≤ l) = true := (by have := of_decide_eq_false e4; exact decide_eq_true (by omega)); have g_e5 : decide (l ≤ r.D) = false := (by have := of_decide_eq_true e5; exact decide_eq_false (by omega)); simp only [fits_t, g_e0, g_e2, g_e3, g_e4, g_e5, Bool.true_and, Bool.and_true, Bool.false_and, Bool.and_false, Bool.true_or, Bool.false_or, Bool.or_true, Bool.or_false, Bool.not_true, Bool.not_false]]
    exact Rd.run pg (KF_ok x) (kN5_8 x r a l y false) (⟨⟨⟨⟨⟨⟨⟨⟨⟨⟨trivial, ⟨rfl, by exact hR⟩⟩, e0⟩, ⟨rfl, by exact hq⟩⟩, e1⟩, ⟨rfl, by exact hA⟩⟩, e2⟩, ⟨rfl, by exact ⟨hR, hq⟩⟩⟩, e3⟩, e4⟩, e5⟩) rfl
  have e : fitsE x (r.wE true) a l y = (hasE x y.Q y.k r.G && ((r.H == 0) || hasAnyE x y.P y.n r.H)) := by
    have g0 : ruleQ (r.wE true) = true := by simpa using e0
    have g2 : attrsE x y = true := by simpa using e2
    have g3 : coversE r.A r.B a l = true := by simpa using e3
    have g4 : decide (r.C ≤ l) = true := by have := of_decide_eq_false e4; exact decide_eq_true (by omega)
    have g5 : decide (l ≤ r.D) = true := by have := of_decide_eq_false e5; exact decide_eq_true (by omega)
    simp only [fits_t, g0, g2, g3, g4, g5, Bool.true_and, Bool.false_or]
  rw [e]
  refine rd_fn (s0 := z8 x r a l y false) rfl fn8 rfl ?_
  refine StepG.downs pg (KF_ok x) (kD8 x r a l y) (⟨⟨⟨⟨⟨⟨⟨⟨⟨⟨trivial, ⟨rfl, by exact hR⟩⟩, e0⟩, ⟨rfl, by exact hq⟩⟩, e1⟩, ⟨rfl, by exact hA⟩⟩, e2⟩, ⟨rfl, by exact ⟨hR, hq⟩⟩⟩, e3⟩, e4⟩, e5⟩) (tm8_dead (VD8_dead vU_dead) lvD8) (h8_ok x r a l y false) rfl (okD8 x r a l y false 0 vU) ?_
  rw [up8]
  refine (findLoop (pic := fun i v => s8 x r a l y (fndE x y.Q r.G i) i v) (e := fun _ => true) (N := y.k) (id := 0) (QD := fun _ _ => False) (fun i v hv hi he => round8 hA hi hv) (fun i v hv hi hp he => by cases he) (fun v hv => exit8 _ hv) (VD8_dead vU_dead)).mono ?_
  rintro ex s (⟨rfl, _, v, hv, rfl⟩ | ⟨_, h⟩)
  rotate_left
  · exact h.elim
  refine .inl ⟨by simp [blockOut], ?_⟩
  cases hg : fndE x y.Q r.G y.k with
  | false =>
    rw [← fnd_has, hg, Bool.false_and]
    refine (StepG.ranV (s0 := z8 x r a l y false) (rd := none) pg (KF_ok x) (kE8f x r a l y y.k v) trivial (show 1 ≤ 4 by decide)).mono ?_
    rintro ex s ⟨rfl, h1, h2⟩
    exact .inr ⟨by simp, rfl, h1, h2⟩
  | true =>
    rw [← fnd_has, hg, Bool.true_and]
    refine (StepG.stdT (s0 := z8 x r a l y false) (rd := none) pg (KF_ok x) (kE8t x r a l y y.k v) trivial (show 1 ≤ 4 by decide) (tm8_dead (VE8_dead hv) lvE8) (h8_ok x r a l y true) rfl (okE8t x r a l y y.k v)).mono ?_
    rintro ex s ⟨rfl, rfl⟩
    refine .inl ⟨rfl, ?_⟩
    rcases Bool.eq_false_or_eq_true (r.H == 0) with h | h
    · rw [h, Bool.true_or]
      refine (StepG.ranV (s0 := z8 x r a l y false) (rd := none) pg (KF_ok x) (kA8t x r a l y y.k (VE8 v)) ⟨trivial, h⟩ (show 1 ≤ 4 by decide)).mono ?_
      rintro ex s ⟨rfl, h1, h2⟩
      exact ⟨rfl, h1, h2⟩
    · rw [h, Bool.false_or]
      refine (StepG.ranV (s0 := z8 x r a l y false) (rd := none) pg (KF_ok x) (kA8f x r a l y y.k (VE8 v)) ⟨⟨trivial, h⟩, rfl, hA.1⟩ (show 1 ≤ 4 by decide)).mono ?_
      rintro ex s ⟨rfl, h1, h2⟩
      exact ⟨rfl, h1, h2⟩
theorem rd8 {x : MX} {r : RV} {a l : Int} {y : AV} (hR : rvOk r) (hp : pvOk a l) (hA : avOk x y) : Rd Tryz.prog x.F 8 [r.v, pv a l, y.v] (.bool (fitsE x r a l y)) := by
  have e : r = r.wE r.E := rfl
  cases h : r.E with
  | false => rw [h] at e; rw [e]; exact rd8_f hR hp hA
  | true => rw [h] at e; rw [e]; exact rd8_t hR hp hA
end
end ob
end Go.Proofs.YthpoeegoankpoaaGreat
namespace Go.Proofs.YthpoeegoankpoaaGreat
open Go.ChangeShapes Go.WideShapes Go.ChangeAt Go.RowKit Go.Cln
namespace ob
set_option linter.unusedVariables false
noncomputable section
theorem err_t {b : Bool} (h : (!errI b == 0) = true) : b = false := by cases b with
  | false => rfl
  | true => exact absurd h (by decide)
theorem err_f {b : Bool} (h : (!errI b == 0) = false) : b = true := by cases b with
  | false => exact absurd h (by decide)
  | true => rfl
theorem k7_0 (x : MX) (r : RV) (a l : Int) (y : AV) : ((mk Tryz.prog (KF x) 200).call 7 [r.v, pv a l, y.v] (smSt 1 [some (.fam x.F)] [none, none, some true, none, none, none, some true])).map (fun r => (r.1, r.2.obl)) = some (Value.bool false, ((((True ∧ (x.F = x.F ∧ (rvOk r))) ∧ (ruleQ r) = true) ∧ (x.F = x.F ∧ (avOk x y))) ∧ (!errI (attrsE x y) == 0) = true)) := by kernel_rfl
theorem k7_1 (x : MX) (r : RV) (a l : Int) (y : AV) : ((mk Tryz.prog (KF x) 200).call 7 [r.v, pv a l, y.v] (smSt 1 [some (.fam x.F)] [none, none, some false, none, none, none, none])).map (fun r => (r.1, r.2.obl)) = some (Value.bool false, ((True ∧ (x.F = x.F ∧ (rvOk r))) ∧ (ruleQ r) = false)) := by kernel_rfl
theorem k7_2 (x : MX) (r : RV) (a l : Int) (y : AV) : ((mk Tryz.prog (KF x) 200).call 7 [r.v, pv a l, y.v] (smSt 1 [some (.fam x.F)] [none, none, some true, none, none, none, some false, none, none, none, some true])).map (fun r => (r.1, r.2.obl)) = some (Value.bool false, ((((((True ∧ (x.F = x.F ∧ (rvOk r))) ∧ (ruleQ r) = true) ∧ (x.F = x.F ∧ (avOk x y))) ∧ (!errI (attrsE x y) == 0) = false) ∧ (x.F = x.F ∧ (pvOk r.A r.B ∧ pvOk a l))) ∧ (!coversE r.A r.B a l) = true)) := by kernel_rfl
theorem k7_3 (x : MX) (r : RV) (a l : Int) (y : AV) : ((mk Tryz.prog (KF x) 200).call 7 [r.v, pv a l, y.v] (smSt 1 [some (.fam x.F)] [none, none, some true, none, none, none, some false, none, none, none, some false, none, none, none, some true, none, none, none, none, none, some true])).map (fun r => (r.1, r.2.obl)) = some (Value.bool false, ((((((((True ∧ (x.F = x.F ∧ (rvOk r))) ∧ (ruleQ r) = true) ∧ (x.F = x.F ∧ (avOk x y))) ∧ (!errI (attrsE x y) == 0) = false) ∧ (x.F = x.F ∧ (pvOk r.A r.B ∧ pvOk a l))) ∧ (!coversE r.A r.B a l) = false) ∧ (decide (r.C ≤ l)) = true) ∧ (!decide (l ≤ r.D)) = true)) := by kernel_rfl
theorem k7_4 (x : MX) (r : RV) (a l : Int) (y : AV) : ((mk Tryz.prog (KF x) 200).call 7 [r.v, pv a l, y.v] (smSt 1 [some (.fam x.F)] [none, none, some true, none, none, none, some false, none, none, none, some false, none, none, none, some false, none, none, none, none, none, none])).map (fun r => (r.1, r.2.obl)) = some (Value.bool false, (((((((True ∧ (x.F = x.F ∧ (rvOk r))) ∧ (ruleQ r) = true) ∧ (x.F = x.F ∧ (avOk x y))) ∧ (!errI (attrsE x y) == 0) = false) ∧ (x.F = x.F ∧ (pvOk r.A r.B ∧ pvOk a l))) ∧ (!coversE r.A r.B a l) = false) ∧ (decide (r.C ≤ l)) = false)) := by kernel_rfl
theorem k7_5 (x : MX) (r : RV) (a l : Int) (y : AV) : ((mk Tryz.prog (KF x) 200).call 7 [r.v, pv a l, y.v] (smSt 1 [some (.fam x.F)] [none, none, some true, none, none, none, some false, none, none, none, some false, none, none, none, some true, none, none, none, none, none, some false, none, none, none, some true, none, none, none, none, none, none, none, none, none, some true, none, none, none, none, none, none, none])).map (fun r => (r.1, r.2.obl)) = some (Value.bool true, ((((((((((True ∧ (x.F = x.F ∧ (rvOk r))) ∧ (ruleQ r) = true) ∧ (x.F = x.F ∧ (avOk x y))) ∧ (!errI (attrsE x y) == 0) = false) ∧ (x.F = x.F ∧ (pvOk r.A r.B ∧ pvOk a l))) ∧ (!coversE r.A r.B a l) = false) ∧ (decide (r.C ≤ l)) = true) ∧ (!decide (l ≤ r.D)) = false) ∧ (!r.E) = true) ∧ (r.H == 0) = true)) := by kernel_rfl
theorem k7_6 (x : MX) (r : RV) (a l : Int) (y : AV) : ((mk Tryz.prog (KF x) 200).call 7 [r.v, pv a l, y.v] (smSt 1 [some (.fam x.F)] [none, none, some true, none, none, none, some false, none, none, none, some false, none, none, none, some true, none, none, none, none, none, some false, none, none, none, some false, none, none, none, none, none, some true])).map (fun r => (r.1, r.2.obl)) = some (Value.bool false, (((((((((((True ∧ (x.F = x.F ∧ (rvOk r))) ∧ (ruleQ r) = true) ∧ (x.F = x.F ∧ (avOk x y))) ∧ (!errI (attrsE x y) == 0) = false) ∧ (x.F = x.F ∧ (pvOk r.A r.B ∧ pvOk a l))) ∧ (!coversE r.A r.B a l) = false) ∧ (decide (r.C ≤ l)) = true) ∧ (!decide (l ≤ r.D)) = false) ∧ (!r.E) = false) ∧ (x.F = x.F ∧ (numOk x y.Q y.k))) ∧ (!hasE x y.Q y.k r.G) = true)) := by kernel_rfl
theorem k7_7 (x : MX) (r : RV) (a l : Int) (y : AV) : ((mk Tryz.prog (KF x) 200).call 7 [r.v, pv a l, y.v] (smSt 1 [some (.fam x.F)] [none, none, some true, none, none, none, some false, none, none, none, some false, none, none, none, some true, none, none, none, none, none, some false, none, none, none, some false, none, none, none, none, none, some false, none, none, none, some true, none, none, none, none, none, none, none])).map (fun r => (r.1, r.2.obl)) = some (Value.bool true, ((((((((((((True ∧ (x.F = x.F ∧ (rvOk r))) ∧ (ruleQ r) = true) ∧ (x.F = x.F ∧ (avOk x y))) ∧ (!errI (attrsE x y) == 0) = false) ∧ (x.F = x.F ∧ (pvOk r.A r.B ∧ pvOk a l))) ∧ (!coversE r.A r.B a l) = false) ∧ (decide (r.C ≤ l)) = true) ∧ (!decide (l ≤ r.D)) = false) ∧ (!r.E) = false) ∧ (x.F = x.F ∧ (numOk x y.Q y.k))) ∧ (!hasE x y.Q y.k r.G) = false) ∧ (r.H == 0) = true)) := by kernel_rfl
theorem k7_8 (x : MX) (r : RV) (a l : Int) (y : AV) : ((mk Tryz.prog (KF x) 200).call 7 [r.v, pv a l, y.v] (smSt 1 [some (.fam x.F)] [none, none, some true, none, none, none, some false, none, none, none, some false, none, none, none, some true, none, none, none, none, none, some false, none, none, none, some false, none, none, none, none, none, some false, none, none, none, some false, none, none, none, none, some true])).map (fun r => (r.1, r.2.obl)) = some (Value.bool false, ((((((((((((((True ∧ (x.F = x.F ∧ (rvOk r))) ∧ (ruleQ r) = true) ∧ (x.F = x.F ∧ (avOk x y))) ∧ (!errI (attrsE x y) == 0) = false) ∧ (x.F = x.F ∧ (pvOk r.A r.B ∧ pvOk a l))) ∧ (!coversE r.A r.B a l) = false) ∧ (decide (r.C ≤ l)) = true) ∧ (!decide (l ≤ r.D)) = false) ∧ (!r.E) = false) ∧ (x.F = x.F ∧ (numOk x y.Q y.k))) ∧ (!hasE x y.Q y.k r.G) = false) ∧ (r.H == 0) = false) ∧ (x.F = x.F ∧ (legOk x y.P y.n))) ∧ (!hasAnyE x y.P y.n r.H) = true)) := by kernel_rfl
theorem k7_9 (x : MX) (r : RV) (a l : Int) (y : AV) : ((mk Tryz.prog (KF x) 200).call 7 [r.v, pv a l, y.v] (smSt 1 [some (.fam x.F)] [none, none, some true, none, none, none, some false, none, none, none, some false, none, none, none, some true, none, none, none, none, none, some false, none, none, none, some false, none, none, none, none, none, some false, none, none, none, some false, none, none, none, none, some false, none, none])).map (fun r => (r.1, r.2.obl)) = some (Value.bool true, ((((((((((((((True ∧ (x.F = x.F ∧ (rvOk r))) ∧ (ruleQ r) = true) ∧ (x.F = x.F ∧ (avOk x y))) ∧ (!errI (attrsE x y) == 0) = false) ∧ (x.F = x.F ∧ (pvOk r.A r.B ∧ pvOk a l))) ∧ (!coversE r.A r.B a l) = false) ∧ (decide (r.C ≤ l)) = true) ∧ (!decide (l ≤ r.D)) = false) ∧ (!r.E) = false) ∧ (x.F = x.F ∧ (numOk x y.Q y.k))) ∧ (!hasE x y.Q y.k r.G) = false) ∧ (r.H == 0) = false) ∧ (x.F = x.F ∧ (legOk x y.P y.n))) ∧ (!hasAnyE x y.P y.n r.H) = false)) := by kernel_rfl
theorem k7_10 (x : MX) (r : RV) (a l : Int) (y : AV) : ((mk Tryz.prog (KF x) 200).call 7 [r.v, pv a l, y.v] (smSt 1 [some (.fam x.F)] [none, none, some true, none, none, none, some false, none, none, none, some false, none, none, none, some true, none, none, none, none, none, some false, none, none, none, some true, none, none, none, none, none, none, none, none, none, some false, none, none, none, none, some true])).map (fun r => (r.1, r.2.obl)) = some (Value.bool false, ((((((((((((True ∧ (x.F = x.F ∧ (rvOk r))) ∧ (ruleQ r) = true) ∧ (x.F = x.F ∧ (avOk x y))) ∧ (!errI (attrsE x y) == 0) = false) ∧ (x.F = x.F ∧ (pvOk r.A r.B ∧ pvOk a l))) ∧ (!coversE r.A r.B a l) = false) ∧ (decide (r.C ≤ l)) = true) ∧ (!decide (l ≤ r.D)) = false) ∧ (!r.E) = true) ∧ (r.H == 0) = false) ∧ (x.F = x.F ∧ (legOk x y.P y.n))) ∧ (!hasAnyE x y.P y.n r.H) = true)) := by kernel_rfl
theorem k7_11 (x : MX) (r : RV) (a l : Int) (y : AV) : ((mk Tryz.prog (KF x) 200).call 7 [r.v, pv a l, y.v] (smSt 1 [some (.fam x.F)] [none, none, some true, none, none, none, some false, none, none, none, some false, none, none, none, some true, none, none, none, none, none, some false, none, none, none, some true, none, none, none, none, none, none, none, none, none, some false, none, none, none, none, some false, none, none])).map (fun r => (r.1, r.2.obl)) = some (Value.bool true, ((((((((((((True ∧ (x.F = x.F ∧ (rvOk r))) ∧ (ruleQ r) = true) ∧ (x.F = x.F ∧ (avOk x y))) ∧ (!errI (attrsE x y) == 0) = false) ∧ (x.F = x.F ∧ (pvOk r.A r.B ∧ pvOk a l))) ∧ (!coversE r.A r.B a l) = false) ∧ (decide (r.C ≤ l)) = true) ∧ (!decide (l ≤ r.D)) = false) ∧ (!r.E) = true) ∧ (r.H == 0) = false) ∧ (x.F = x.F ∧ (legOk x y.P y.n))) ∧ (!hasAnyE x y.P y.n r.H) = false)) := by kernel_rfl
theorem rd7 {x : MX} {r : RV} {a l : Int} {y : AV} (hR : rvOk r) (hq : pvOk a l) (hA : avOk x y) : Rd Tryz.prog x.F 7 [r.v, pv a l, y.v] (.bool (fitsE x r a l y)) := by
  rcases Bool.eq_false_or_eq_true (ruleQ r) with h0 | h0
  · skip
    rcases Bool.eq_false_or_eq_true (!errI (attrsE x y) == 0) with h1 | h1
    · skip
      rw [show (.bool (fitsE x r a l y) : Value) = Value.bool false from by have g_h1 : attrsE x y = false := err_t h1; simp only [fitsE, h0, g_h1, Bool.true_and, Bool.and_true, Bool.false_and, Bool.and_false, Bool.true_or, Bool.false_or, Bool.or_true, Bool.or_false, Bool.not_true, Bool.not_false]]
      exact Rd.run pg (KF_ok x) (k7_0 x r a l y) ⟨⟨⟨⟨trivial, ⟨rfl, by exact hR⟩⟩, h0⟩, ⟨rfl, by exact hA⟩⟩, h1⟩ rfl
    · skip
      rcases Bool.eq_false_or_eq_true (!coversE r.A r.B a l) with h2 | h2
      · skip
        rw [show (.bool (fitsE x r a l y) : Value) = Value.bool false from by have g_h1 : attrsE x y = true := err_f h1; have g_h2 : coversE r.A r.B a l = false := (by simpa only [Bool.not_eq_true', Bool.not_eq_false'] using h2); simp only [fitsE, h0, g_h1, g_h2, Bool.true_and, Bool.and_true, Bool.false_and, Bool.and_false, Bool.true_or, Bool.false_or, Bool.or_true, Bool.or_false, Bool.not_true, Bool.not_false]]
        exact Rd.run pg (KF_ok x) (k7_2 x r a l y) ⟨⟨⟨⟨⟨⟨trivial, ⟨rfl, by exact hR⟩⟩, h0⟩, ⟨rfl, by exact hA⟩⟩, h1⟩, ⟨rfl, by exact ⟨hR, hq⟩⟩⟩, h2⟩ rfl
      · skip
        rcases Bool.eq_false_or_eq_true (decide (r.C ≤ l)) with h3 | h3
        · skip
          rcases Bool.eq_false_or_eq_true (!decide (l ≤ r.D)) with h4 | h4
          · skip
            rw [show (.bool (fitsE x r a l y) : Value) = Value.bool false from by have g_h1 : attrsE x y = true := err_f h1; have g_h2 : coversE r.A r.B a l = true := (by simpa only [Bool.not_eq_true', Bool.not_eq_false'] using h2); have g_h4 : decide (l ≤ r.D) = false := (by simpa only [Bool.not_eq_true', Bool.not_eq_false'] using h4); simp only [fitsE, h0, g_h1, g_h2, h3, g_h4, Bool.true_and, Bool.and_true, Bool.false_and, Bool.and_false, Bool.true_or, Bool.false_or, Bool.or_true, Bool.or_false, Bool.not_true, Bool.not_false]]
            exact Rd.run pg (KF_ok x) (k7_3 x r a l y) ⟨⟨⟨⟨⟨⟨⟨⟨trivial, ⟨rfl, by exact hR⟩⟩, h0⟩, ⟨rfl, by exact hA⟩⟩, h1⟩, ⟨rfl, by exact ⟨hR, hq⟩⟩⟩, h2⟩, h3⟩, h4⟩ rfl
          · skip
            rcases Bool.eq_false_or_eq_true (!r.E) with h5 | h5
            · skip
              rcases Bool.eq_false_or_eq_true (r.H == 0) with h6 | h6
              · skip
                rw [show (.bool (fitsE x r a l y) : Value) = Value.bool true from by have g_h1 : attrsE x y = true := err_f h1; have g_h2 : coversE r.A r.B a l = true := (by simpa only [Bool.not_eq_true', Bool.not_eq_false'] using h2); have g_h4 : decide (l ≤ r.D) = true := (by simpa only [Bool.not_eq_true', Bool.not_eq_false'] using h4); simp only [fitsE, h0, g_h1, g_h2, h3, g_h4, h5, h6, Bool.true_and, Bool.and_true, Bool.false_and, Bool.and_false, Bool.true_or, Bool.false_or, Bool.or_true, Bool.or_false, Bool.not_true, Bool.not_false]]
                exact Rd.run pg (KF_ok x) (k7_5 x r a l y) ⟨⟨⟨⟨⟨⟨⟨⟨⟨⟨trivial, ⟨rfl, by exact hR⟩⟩, h0⟩, ⟨rfl, by exact hA⟩⟩, h1⟩, ⟨rfl, by exact ⟨hR, hq⟩⟩⟩, h2⟩, h3⟩, h4⟩, h5⟩, h6⟩ rfl
              · skip
                rcases Bool.eq_false_or_eq_true (!hasAnyE x y.P y.n r.H) with h7 | h7
                · skip
                  rw [show (.bool (fitsE x r a l y) : Value) = Value.bool false from by have g_h1 : attrsE x y = true := err_f h1; have g_h2 : coversE r.A r.B a l = true := (by simpa only [Bool.not_eq_true', Bool.not_eq_false'] using h2); have g_h4 : decide (l ≤ r.D) = true := (by simpa only [Bool.not_eq_true', Bool.not_eq_false'] using h4); have g_h7 : hasAnyE x y.P y.n r.H = false := (by simpa only [Bool.not_eq_true', Bool.not_eq_false'] using h7); simp only [fitsE, h0, g_h1, g_h2, h3, g_h4, h5, h6, g_h7, Bool.true_and, Bool.and_true, Bool.false_and, Bool.and_false, Bool.true_or, Bool.false_or, Bool.or_true, Bool.or_false, Bool.not_true, Bool.not_false]]
                  exact Rd.run pg (KF_ok x) (k7_10 x r a l y) ⟨⟨⟨⟨⟨⟨⟨⟨⟨⟨⟨⟨trivial, ⟨rfl, by exact hR⟩⟩, h0⟩, ⟨rfl, by exact hA⟩⟩, h1⟩, ⟨rfl, by exact ⟨hR, hq⟩⟩⟩, h2⟩, h3⟩, h4⟩, h5⟩, h6⟩, ⟨rfl, by exact hA.1⟩⟩, h7⟩ rfl
                · skip
                  rw [show (.bool (fitsE x r a l y) : Value) = Value.bool true from by have g_h1 : attrsE x y = true := err_f h1; have g_h2 : coversE r.A r.B a l = true := (by simpa only [Bool.not_eq_true', Bool.not_eq_false'] using h2); have g_h4 : decide (l ≤ r.D) = true := (by simpa only [Bool.not_eq_true', Bool.not_eq_false'] using h4); have g_h7 : hasAnyE x y.P y.n r.H = true := (by simpa only [Bool.not_eq_true', Bool.not_eq_false'] using h7); simp only [fitsE, h0, g_h1, g_h2, h3, g_h4, h5, h6, g_h7, Bool.true_and, Bool.and_true, Bool.false_and, Bool.and_false, Bool.true_or, Bool.false_or, Bool.or_true, Bool.or_false, Bool.not_true, Bool.not_false]]
                  exact Rd.run pg (KF_ok x) (k7_11 x r a l y) ⟨⟨⟨⟨⟨⟨⟨⟨⟨⟨⟨⟨trivial, ⟨rfl, by exact hR⟩⟩, h0⟩, ⟨rfl, by exact hA⟩⟩, h1⟩, ⟨rfl, by exact ⟨hR, hq⟩⟩⟩, h2⟩, h3⟩, h4⟩, h5⟩, h6⟩, ⟨rfl, by exact hA.1⟩⟩, h7⟩ rfl
            · skip
              rcases Bool.eq_false_or_eq_true (!hasE x y.Q y.k r.G) with h6 | h6
              · skip
                rw [show (.bool (fitsE x r a l y) : Value) = Value.bool false from by have g_h1 : attrsE x y = true := err_f h1; have g_h2 : coversE r.A r.B a l = true := (by simpa only [Bool.not_eq_true', Bool.not_eq_false'] using h2); have g_h4 : decide (l ≤ r.D) = true := (by simpa only [Bool.not_eq_true', Bool.not_eq_false'] using h4); have g_h6 : hasE x y.Q y.k r.G = false := (by simpa only [Bool.not_eq_true', Bool.not_eq_false'] using h6); simp only [fitsE, h0, g_h1, g_h2, h3, g_h4, h5, g_h6, Bool.true_and, Bool.and_true, Bool.false_and, Bool.and_false, Bool.true_or, Bool.false_or, Bool.or_true, Bool.or_false, Bool.not_true, Bool.not_false]]
                exact Rd.run pg (KF_ok x) (k7_6 x r a l y) ⟨⟨⟨⟨⟨⟨⟨⟨⟨⟨⟨trivial, ⟨rfl, by exact hR⟩⟩, h0⟩, ⟨rfl, by exact hA⟩⟩, h1⟩, ⟨rfl, by exact ⟨hR, hq⟩⟩⟩, h2⟩, h3⟩, h4⟩, h5⟩, ⟨rfl, by exact hA.2⟩⟩, h6⟩ rfl
              · skip
                rcases Bool.eq_false_or_eq_true (r.H == 0) with h7 | h7
                · skip
                  rw [show (.bool (fitsE x r a l y) : Value) = Value.bool true from by have g_h1 : attrsE x y = true := err_f h1; have g_h2 : coversE r.A r.B a l = true := (by simpa only [Bool.not_eq_true', Bool.not_eq_false'] using h2); have g_h4 : decide (l ≤ r.D) = true := (by simpa only [Bool.not_eq_true', Bool.not_eq_false'] using h4); have g_h6 : hasE x y.Q y.k r.G = true := (by simpa only [Bool.not_eq_true', Bool.not_eq_false'] using h6); simp only [fitsE, h0, g_h1, g_h2, h3, g_h4, h5, g_h6, h7, Bool.true_and, Bool.and_true, Bool.false_and, Bool.and_false, Bool.true_or, Bool.false_or, Bool.or_true, Bool.or_false, Bool.not_true, Bool.not_false]]
                  exact Rd.run pg (KF_ok x) (k7_7 x r a l y) ⟨⟨⟨⟨⟨⟨⟨⟨⟨⟨⟨⟨trivial, ⟨rfl, by exact hR⟩⟩, h0⟩, ⟨rfl, by exact hA⟩⟩, h1⟩, ⟨rfl, by exact ⟨hR, hq⟩⟩⟩, h2⟩, h3⟩, h4⟩, h5⟩, ⟨rfl, by exact hA.2⟩⟩, h6⟩, h7⟩ rfl
                · skip
                  rcases Bool.eq_false_or_eq_true (!hasAnyE x y.P y.n r.H) with h8 | h8
                  · skip
                    rw [show (.bool (fitsE x r a l y) : Value) = Value.bool false from by have g_h1 : attrsE x y = true := err_f h1; have g_h2 : coversE r.A r.B a l = true := (by simpa only [Bool.not_eq_true', Bool.not_eq_false'] using h2); have g_h4 : decide (l ≤ r.D) = true := (by simpa only [Bool.not_eq_true', Bool.not_eq_false'] using h4); have g_h6 : hasE x y.Q y.k r.G = true := (by simpa only [Bool.not_eq_true', Bool.not_eq_false'] using h6); have g_h8 : hasAnyE x y.P y.n r.H = false := (by simpa only [Bool.not_eq_true', Bool.not_eq_false'] using h8); simp only [fitsE, h0, g_h1, g_h2, h3, g_h4, h5, g_h6, h7, g_h8, Bool.true_and, Bool.and_true, Bool.false_and, Bool.and_false, Bool.true_or, Bool.false_or, Bool.or_true, Bool.or_false, Bool.not_true, Bool.not_false]]
                    exact Rd.run pg (KF_ok x) (k7_8 x r a l y) ⟨⟨⟨⟨⟨⟨⟨⟨⟨⟨⟨⟨⟨⟨trivial, ⟨rfl, by exact hR⟩⟩, h0⟩, ⟨rfl, by exact hA⟩⟩, h1⟩, ⟨rfl, by exact ⟨hR, hq⟩⟩⟩, h2⟩, h3⟩, h4⟩, h5⟩, ⟨rfl, by exact hA.2⟩⟩, h6⟩, h7⟩, ⟨rfl, by exact hA.1⟩⟩, h8⟩ rfl
                  · skip
                    rw [show (.bool (fitsE x r a l y) : Value) = Value.bool true from by have g_h1 : attrsE x y = true := err_f h1; have g_h2 : coversE r.A r.B a l = true := (by simpa only [Bool.not_eq_true', Bool.not_eq_false'] using h2); have g_h4 : decide (l ≤ r.D) = true := (by simpa only [Bool.not_eq_true', Bool.not_eq_false'] using h4); have g_h6 : hasE x y.Q y.k r.G = true := (by simpa only [Bool.not_eq_true', Bool.not_eq_false'] using h6); have g_h8 : hasAnyE x y.P y.n r.H = true := (by simpa only [Bool.not_eq_true', Bool.not_eq_false'] using h8); simp only [fitsE, h0, g_h1, g_h2, h3, g_h4, h5, g_h6, h7, g_h8, Bool.true_and, Bool.and_true, Bool.false_and, Bool.and_false, Bool.true_or, Bool.false_or, Bool.or_true, Bool.or_false, Bool.not_true, Bool.not_false]]
                    exact Rd.run pg (KF_ok x) (k7_9 x r a l y) ⟨⟨⟨⟨⟨⟨⟨⟨⟨⟨⟨⟨⟨⟨trivial, ⟨rfl, by exact hR⟩⟩, h0⟩, ⟨rfl, by exact hA⟩⟩, h1⟩, ⟨rfl, by exact ⟨hR, hq⟩⟩⟩, h2⟩, h3⟩, h4⟩, h5⟩, ⟨rfl, by exact hA.2⟩⟩, h6⟩, h7⟩, ⟨rfl, by exact hA.1⟩⟩, h8⟩ rfl
        · skip
          rw [show (.bool (fitsE x r a l y) : Value) = Value.bool false from by have g_h1 : attrsE x y = true := err_f h1; have g_h2 : coversE r.A r.B a l = true := (by simpa only [Bool.not_eq_true', Bool.not_eq_false'] using h2); simp only [fitsE, h0, g_h1, g_h2, h3, Bool.true_and, Bool.and_true, Bool.false_and, Bool.and_false, Bool.true_or, Bool.false_or, Bool.or_true, Bool.or_false, Bool.not_true, Bool.not_false]]
          exact Rd.run pg (KF_ok x) (k7_4 x r a l y) ⟨⟨⟨⟨⟨⟨⟨trivial, ⟨rfl, by exact hR⟩⟩, h0⟩, ⟨rfl, by exact hA⟩⟩, h1⟩, ⟨rfl, by exact ⟨hR, hq⟩⟩⟩, h2⟩, h3⟩ rfl
  · skip
    rw [show (.bool (fitsE x r a l y) : Value) = Value.bool false from by simp only [fitsE, h0, Bool.true_and, Bool.and_true, Bool.false_and, Bool.and_false, Bool.true_or, Bool.false_or, Bool.or_true, Bool.or_false, Bool.not_true, Bool.not_false]]
    exact Rd.run pg (KF_ok x) (k7_1 x r a l y) ⟨⟨trivial, ⟨rfl, by exact hR⟩⟩, h0⟩ rfl
end
end ob
end Go.Proofs.YthpoeegoankpoaaGreat
