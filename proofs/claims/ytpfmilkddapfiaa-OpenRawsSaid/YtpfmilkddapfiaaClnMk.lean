/- Read off the code by the clean reading. -/
import Derived.Test.YtpfmilkddapfiaaClnMj
import Derived.Test.YtpfmilkddapfiaaClnQd
set_option linter.unusedVariables false
set_option linter.unusedSimpArgs false
set_option linter.deprecated false
set_option maxRecDepth 100000
namespace Go.Proofs.Ytpfmilkddapfiaa
open Go.ChangeShapes Go.WideShapes Go.ChangeAt Go.RowKit Go.Cln
namespace ob
set_option linter.unusedVariables false
noncomputable section
noncomputable def rw30 (x : MX) (args : List Value) : Option (Value × Prop) := match args with
  | [.agg z0] => (ovOf z0).bind fun u => some (.bool (rightE x u), u.n ≤ x.CN u.P ∧ u.n ≤ 1000)
  | _ => none
theorem rw30_ok (x : MX) {args : List Value} {r : Value × Prop} (h : rw30 x args = some r) : flat r.1 = true ∧ args.all farV = true ∧ (r.2 → Rd Try.prog x.F 30 args r.1) := by
  unfold rw30 at h
  split at h
  · rename_i z0
    rw [Option.bind_eq_some_iff] at h
    obtain ⟨u, hu, h⟩ := h
    cases h
    rw [ovOf_v hu]
    exact ⟨rfl, rfl, fun hp => rd30 hp⟩
  · cases h
noncomputable def TR30 (x : MX) (f : FuncId) (args : List Value) : Option (Value × Prop) := if f == 30 then rw30 x args else none
theorem TR30_ok (x : MX) (f : FuncId) (args : List Value) (r : Value × Prop) (h : TR30 x f args = some r) : flat r.1 = true ∧ args.all farV = true ∧ (r.2 → Rd Try.prog x.F f args r.1) := by
  unfold TR30 at h
  by_cases e30 : (f == 30) = true
  · have hf : f = 30 := by simpa using e30
    subst hf
    exact rw30_ok x h
  rw [if_neg e30] at h
  cases h
noncomputable def KT30 (x : MX) : Given := { Given.rds Given.nothing x.F (TR30 x) with fits := true }
theorem KT30_ok (x : MX) : GivenOk Try.prog (KT30 x) := frames_fits ((GivenOk.nothing _).rds (TR30_ok x)) true
def thnC : Code → Code
  | .cond _ a _ => a
  | c => c
def elsC : Code → Code
  | .cond _ _ b => b
  | c => c
def blkC : Code → Code
  | .block _ b => b
  | c => c
def b15 : Code := ((Try.prog.funcs[15]?).bind (·.body)).getD .skip
theorem fn15 : (Try.prog.funcs[15]?).map (fun f => (f.body, f.results.toList, f.ntmps)) = some (some b15, [.tmp 2], 12) := by kernel_rfl
def e15 : Code := sndC (sndC b15)
def c15 : Code := sndC (blkC (fstC (sndC b15)))
def y15 : Code := elsC c15
def o15 : Array Oper := opsC (fstC y15)
def d15 : Code := sndC y15
theorem c15_eq : c15 = .cond (.tmp 3) (thnC c15) y15 := by kernel_rfl
theorem y15_eq : y15 = .seq (.region 3 o15 false) d15 := by kernel_rfl
theorem o15_eq : List.range o15.size = [0] ++ (1 :: ([2, 3, 4] ++ [])) := by kernel_rfl
noncomputable def z15 (x : MX) (a : OV) : St := { smSt 1 [some (.fam x.F)] [] with tmps := [a.v] ++ List.replicate 11 undef, defers := [] }
noncomputable def go15 (K : Given) (c : Code) (s : St) (o : List (Option Bool)) : Option (Exit × St) := (mk Try.prog K 300).code 15 none c { s with obl := True, orc := o }
noncomputable def gd15 (K : Given) (s : St) (o : List (Option Bool)) : Option (St × Code) := down (mk Try.prog K 300) 15 none [2, 3, 0, 2] b15 { s with obl := True, orc := o }
noncomputable def check15 (x : MX) (a : OV) : Int := bif rightE x a then (bif decide (nI (behE x a).length > 255) then 3 else 0) else 2
noncomputable def tm15a (v : VF) (a : OV) (u : Value) : List Value := (a.v :: .pointer (some ⟨1, 0, none⟩) :: v 2 :: u :: vs v 4 8 [])
theorem tm15a_dead {v : VF} {a : OV} {u : Value} {B : Nat → Bool} (h : ∀ i, DeadV (v i)) (hB : ∀ i, ((Nat.ble 0 i && Nat.ble i 1) || Nat.beq i 3) = true → B i = true) : deadT B 0 (tm15a v a u) :=
  dl (hB 0 rfl) (dl (hB 1 rfl) (dn (h 2) (dl (hB 3 rfl) (deadT_vs h 8 (trivial)))))
noncomputable def tm15b (v : VF) (a : OV) : List Value := (a.v :: .pointer (some ⟨1, 0, none⟩) :: vs v 2 6 (a.v :: vs v 9 3 []))
theorem tm15b_dead {v : VF} {a : OV} {B : Nat → Bool} (h : ∀ i, DeadV (v i)) (hB : ∀ i, ((Nat.ble 0 i && Nat.ble i 1) || Nat.beq i 8) = true → B i = true) : deadT B 0 (tm15b v a) :=
  dl (hB 0 rfl) (dl (hB 1 rfl) (deadT_vs h 6 (dl (hB 8 rfl) (deadT_vs h 3 (trivial)))))
noncomputable def tm15r (v : VF) (a : OV) (u : Value) : List Value := (a.v :: .pointer (some ⟨1, 0, none⟩) :: vs v 2 6 (a.v :: u :: v 10 :: v 11 :: []))
noncomputable def tm15c (v : VF) (a : OV) (u : Value) : List Value := (a.v :: .pointer (some ⟨1, 0, none⟩) :: vs v 2 5 (u :: vs v 8 4 []))
theorem tm15c_dead {v : VF} {a : OV} {u : Value} {B : Nat → Bool} (h : ∀ i, DeadV (v i)) (hB : ∀ i, ((Nat.ble 0 i && Nat.ble i 1) || Nat.beq i 7) = true → B i = true) : deadT B 0 (tm15c v a u) :=
  dl (hB 0 rfl) (dl (hB 1 rfl) (deadT_vs h 5 (dl (hB 7 rfl) (deadT_vs h 4 (trivial)))))
def WA15 (i : Nat) : Bool := Nat.beq i 2 || (Nat.ble 5 i && Nat.ble i 6)
noncomputable def VA15 (v : VF) : VF := fun i => match Nat.beq i 4 with
  | true => .agg #[junk, junk, junk, junk]
  | false => match WA15 i with
  | true => junk
  | false => v i
def BA15 (i : Nat) : Bool := ((Nat.ble 0 i && Nat.ble i 1) || Nat.beq i 3) || WA15 i || Nat.beq i 4
theorem VA15_dead {v : VF} (h : ∀ i, DeadV (v i)) (i : Nat) : DeadV (VA15 v i) := by
  unfold VA15
  split
  · exact ⟨rfl, fun _ => rfl, fun _ => rfl⟩
  split
  · exact DeadV.junk
  · exact h i
theorem lvA15 (i : Nat) (h : ((Nat.ble 0 i && Nat.ble i 1) || Nat.beq i 3) = true) : BA15 i = true := jl (jl h)
def WB15 (i : Nat) : Bool := Nat.beq i 3
noncomputable def VB15 (v : VF) : VF := fun i => match WB15 i with
  | true => junk
  | false => v i
def BB15 (i : Nat) : Bool := ((Nat.ble 0 i && Nat.ble i 1) || Nat.beq i 8) || WB15 i
theorem VB15_dead {v : VF} (h : ∀ i, DeadV (v i)) (i : Nat) : DeadV (VB15 v i) := jD (W := WB15) h i
theorem lvB15 (i : Nat) (h : ((Nat.ble 0 i && Nat.ble i 1) || Nat.beq i 8) = true) : BB15 i = true := jl h
def WC15 (i : Nat) : Bool := (Nat.ble 9 i && Nat.ble i 11)
noncomputable def VC15 (v : VF) : VF := fun i => match Nat.beq i 8 with
  | true => .agg #[junk, junk, junk, junk]
  | false => match WC15 i with
  | true => junk
  | false => v i
def BC15 (i : Nat) : Bool := ((Nat.ble 0 i && Nat.ble i 1) || Nat.beq i 7) || WC15 i || Nat.beq i 8
theorem VC15_dead {v : VF} (h : ∀ i, DeadV (v i)) (i : Nat) : DeadV (VC15 v i) := by
  unfold VC15
  split
  · exact ⟨rfl, fun _ => rfl, fun _ => rfl⟩
  split
  · exact DeadV.junk
  · exact h i
theorem lvC15 (i : Nat) (h : ((Nat.ble 0 i && Nat.ble i 1) || Nat.beq i 7) = true) : BC15 i = true := jl (jl h)
def WN15 (i : Nat) : Bool := false
noncomputable def VN15 (v : VF) : VF := fun i => match WN15 i with
  | true => junk
  | false => v i
def BN15 (i : Nat) : Bool := ((Nat.ble 0 i && Nat.ble i 1) || Nat.beq i 7) || WN15 i
theorem VN15_dead {v : VF} (h : ∀ i, DeadV (v i)) (i : Nat) : DeadV (VN15 v i) := jD (W := WN15) h i
theorem lvN15 (i : Nat) (h : ((Nat.ble 0 i && Nat.ble i 1) || Nat.beq i 7) = true) : BN15 i = true := jl h
noncomputable def s15a (x : MX) (a : OV) (u : Value) (v : VF) : St := ⟨tm15a v a u, [], Tr.rebuild (g23 x a) 2, 2, 1, [], fun _ => false, True, []⟩
noncomputable def s15b (x : MX) (a : OV) (v : VF) : St := ⟨tm15b v a, [], Tr.rebuild (g23 x a) 2, 2, 1, [], fun _ => false, True, []⟩
noncomputable def s15r (x : MX) (a : OV) (u : Value) (v : VF) : St := ⟨tm15r v a u, [], Tr.rebuild (g23 x a) 2, 2, 1, [], fun _ => false, True, []⟩
noncomputable def s15c (x : MX) (a : OV) (u : Value) (v : VF) : St := ⟨tm15c v a u, [], Tr.rebuild (g23 x a) 2, 2, 1, [], fun _ => false, True, []⟩
theorem k15d (x : MX) (a : OV) : (gd15 (KT30 x) (z15 x a) []).map (fun r => (r.2, r.1.obl, seenInT BA15 r.1 (s15a x a (.bool (!rightE x a)) (VA15 vU)) [0, 1])) = some (c15, (True ∧ (x.F = x.F ∧ a.n ≤ x.CN a.P ∧ a.n ≤ 1000)), seenAsT BA15 (s15a x a (.bool (!rightE x a)) (VA15 vU)) [0, 1] 2) := by kernel_rfl
theorem ok15d (x0 x : MX) (a : OV) (b : Bool) (v : VF) : picOkT BA15 (z15 x0 a) (s15a x a (.bool b) (VA15 v)) [0, 1] = true := by kernel_rfl
theorem k15e (x : MX) (a : OV) (b : Bool) (v : VF) : (go15 KN (thnC c15) (s15a x a (.bool b) v) []).bind (fun r => (results1 Try.prog r.2 [.tmp 2]).map fun q => (r.1, q.2.obl, r.2.defers, oneOf q.1)) = some (.ret, True, [], .int .i64 2) := by kernel_rfl
theorem k15b (x : MX) (a : OV) (b : Bool) (v : VF) : (runSeq Try.prog KN (mk Try.prog KN 200) o15 [0] { s15a x a (.bool b) v with obl := True, orc := [] }).map (fun r => (r.obl, seenInT BB15 r (s15b x a (VB15 v)) [0, 1])) = some (True, seenAsT BB15 (s15b x a (VB15 v)) [0, 1] 2) := by kernel_rfl
theorem ok15b (x0 x : MX) (a : OV) (v : VF) : picOkT BB15 (z15 x0 a) (s15b x a (VB15 v)) [0, 1] = true := by kernel_rfl
theorem k15c (x : MX) (a : OV) (P n c : Nat) (v : VF) : (runSeq Try.prog KN (mk Try.prog KN 200) o15 [2, 3, 4] { s15r x a (PB_ P n c) v with obl := True, orc := [] }).map (fun r => (r.obl, seenInT BC15 r (s15c x a (.bool (decide (nI n > 255))) (VC15 v)) [0, 1])) = some (True, seenAsT BC15 (s15c x a (.bool (decide (nI n > 255))) (VC15 v)) [0, 1] 2) := by kernel_rfl
theorem ok15c (x0 x : MX) (a : OV) (b : Bool) (v : VF) : picOkT BC15 (z15 x0 a) (s15c x a (.bool b) (VC15 v)) [0, 1] = true := by kernel_rfl
theorem k15t (x : MX) (a : OV) (b : Bool) (v : VF) : (go15 KN d15 (s15c x a (.bool b) v) [some true]).bind (fun r => (results1 Try.prog r.2 [.tmp 2]).map fun q => (r.1, q.2.obl, r.2.defers, oneOf q.1)) = some (.ret, True ∧ b = true, [], .int .i64 3) := by kernel_rfl
theorem k15f (x : MX) (a : OV) (b : Bool) (v : VF) : (go15 KN d15 (s15c x a (.bool b) v) [some false]).map (fun r => (r.1, r.2.obl, seenInT BN15 r.2 (s15c x a (.bool false) (VN15 v)) [0, 1])) = some (.normal, True ∧ b = false, seenAsT BN15 (s15c x a (.bool false) (VN15 v)) [0, 1] 2) := by kernel_rfl
theorem ok15f (x0 x : MX) (a : OV) (b : Bool) (v : VF) : picOkT BN15 (z15 x0 a) (s15c x a (.bool b) (VN15 v)) [0, 1] = true := by kernel_rfl
theorem k15g (x : MX) (a : OV) (b : Bool) (v : VF) : (go15 KN e15 (s15c x a (.bool b) v) []).bind (fun r => (results1 Try.prog r.2 [.tmp 2]).map fun q => (r.1, q.2.obl, r.2.defers, oneOf q.1)) = some (.ret, True, [], .int .i64 0) := by kernel_rfl
theorem up15 (x : MX) (a : OV) (ρ0 : Nat → PB) (W0 : World) (Q_ : Exit → St → Prop) : upW Try.prog none (z15 x a) ρ0 W0 [2, 3, 0, 2] b15 Q_ = fun e s => (fun e s => (e = .normal ∧ StepW Try.prog none (z15 x a) ρ0 W0 e15 s Q_) ∨ (e ≠ .normal ∧ Q_ e s)) (blockOut 0 e) s := by kernel_rfl
theorem set15 (a : OV) (u : Value) (v : VF) : setL (tm15b v a) 9 u = tm15r v a u := by kernel_rfl
theorem g15b0 (x : MX) (a : OV) (v : VF) : (s15b x a v).heap.get 0 = some (.fam x.F) := by kernel_rfl
theorem g15r0 (x : MX) (a : OV) (u : Value) (v : VF) : (s15r x a u v).heap.get 0 = some (.fam x.F) := by kernel_rfl
def Q15 (v : Int) : Exit → St → Prop := fun e s' => leaves? e = true ∧ s'.defers = [] ∧ ResV Try.prog [.tmp 2] (.int .i64 v) s'
theorem rd15 {x : MX} {a : OV} (hO : capOk x a.P a.n) : Rd Try.prog x.F 15 [a.v] (.int .i64 (check15 x a)) := by
  unfold check15
  cases hf : Try.prog.funcs[15]? with
  | none => have := fn15; rw [hf] at this; cases this
  | some fn =>
  have hfn := fn15
  rw [hf] at hfn
  simp only [Option.map_some, Option.some.injEq, Prod.mk.injEq] at hfn
  obtain ⟨q1, q2, q3⟩ := hfn
  refine Rd.ofG hf q1 q2 rfl ?_
  rw [q3]
  show StepG Try.prog none (z15 x a) b15 (z15 x a) (Q15 (bif rightE x a then (bif decide (nI (behE x a).length > 255) then 3 else 0) else 2))
  refine StepW.all fun ρ0 W0 _ => ?_
  refine StepW.downs pg (KT30_ok x) (k15d x a) ⟨trivial, rfl, hO.1, hO.2.1⟩ (tm15a_dead (VA15_dead vU_dead) lvA15) (g23_ok x a) rfl (ok15d x x a _ vU) ?_
  rw [up15, c15_eq]
  have hv := VA15_dead vU_dead
  cases hr : rightE x a with
  | false =>
    refine StepW.cond (b := true) rfl ?_
    rw [if_pos rfl]
    refine ((StepG.ranV (s0 := z15 x a) (rd := none) pg KN_ok (k15e x a true _) trivial (show 1 ≤ 2 by decide)).at ρ0 W0).mono ?_
    rintro e s ⟨rfl, h1, h2⟩
    exact .inr ⟨(by intro h; cases h), rfl, h1, h2⟩
  | true =>
    refine StepW.cond (b := false) rfl ?_
    rw [if_neg (by decide), y15_eq]
    refine StepW.seq (StepW.region ?_)
    rw [o15_eq]
    refine StepO.run pg KN_ok (k15b x a false _) trivial (show 1 ≤ 2 by decide) (tm15b_dead (VB15_dead hv) lvB15) (g23_ok x a) rfl (ok15b x x a _) ?_
    refine StepO.call' (F := x.F) (g := 25) (vs := [a.v]) (f := .func 25) (args := #[.tmp 8]) (dst := some 9) pg (by kernel_rfl) trivial rfl rfl fn25 rfl (g15b0 x a _) rfl (beh25 hO) ?_
    rintro F' v' hf ⟨y, P, c, rfl, rfl, hk, hs⟩
    refine ⟨s15r y a (PB_ P (behE x a).length c) (VB15 (VA15 vU)), ⟨rfl, rfl, rfl, rfl, rfl, (set15 a _ _).symm, g15r0 y a _ _, fun j hj => getr (by decide) (g23_rest x y a) j hj⟩, ?_⟩
    refine StepO.run pg KN_ok (k15c y a P _ c _) trivial (show 1 ≤ 2 by decide) (tm15c_dead (VC15_dead (VB15_dead hv)) lvC15) (g23_ok y a) rfl (ok15c x y a _ _) ?_
    refine StepO.nil (.inl ⟨rfl, ?_⟩)
    show StepW Try.prog none (z15 x a) ρ0 W0 d15 (s15c y a (.bool (decide (nI (behE x a).length > 255))) (VC15 (VB15 (VA15 vU)))) fun e s => (fun e s => (e = .normal ∧ StepW Try.prog none (z15 x a) ρ0 W0 e15 s (Q15 (bif decide (nI (behE x a).length > 255) then 3 else 0))) ∨ (e ≠ .normal ∧ Q15 (bif decide (nI (behE x a).length > 255) then 3 else 0) e s)) (blockOut 0 e) s
    generalize decide (nI (behE x a).length > 255) = b
    cases b with
    | true =>
      refine ((StepG.ranV (s0 := z15 x a) (rd := none) pg KN_ok (k15t y a true _) ⟨trivial, rfl⟩ (show 1 ≤ 2 by decide)).at ρ0 W0).mono ?_
      rintro e s ⟨rfl, h1, h2⟩
      exact .inr ⟨(by intro h; cases h), rfl, h1, h2⟩
    | false =>
      refine ((StepG.stdT (s0 := z15 x a) (rd := none) pg KN_ok (k15f y a false _) ⟨trivial, rfl⟩ (show 1 ≤ 2 by decide) (tm15c_dead (VN15_dead (VC15_dead (VB15_dead hv))) lvN15) (g23_ok y a) rfl (ok15f x y a _ _)).at ρ0 W0).mono ?_
      rintro e s ⟨rfl, rfl⟩
      refine .inl ⟨rfl, ?_⟩
      refine ((StepG.ranV (s0 := z15 x a) (rd := none) pg KN_ok (k15g y a false _) trivial (show 1 ≤ 2 by decide)).at ρ0 W0).mono ?_
      rintro e s ⟨rfl, h1, h2⟩
      exact ⟨rfl, h1, h2⟩
end
end ob
end Go.Proofs.Ytpfmilkddapfiaa
namespace Go.Proofs.Ytpfmilkddapfiaa
open Go.ChangeShapes Go.WideShapes Go.ChangeAt Go.RowKit Go.Cln
namespace ob
set_option linter.unusedVariables false
noncomputable section
end
end ob
end Go.Proofs.Ytpfmilkddapfiaa
namespace Go.Proofs.Ytpfmilkddapfiaa
open Go.ChangeShapes Go.WideShapes Go.ChangeAt Go.RowKit Go.Cln
namespace ob
set_option linter.unusedVariables false
noncomputable section
noncomputable def rw15 (x : MX) (args : List Value) : Option (Value × Prop) := match args with
  | [.agg z0] => (ovOf z0).bind fun u => some (.int .i64 (check15 x u), capOk x u.P u.n)
  | _ => none
theorem rw15_ok (x : MX) {args : List Value} {r : Value × Prop} (h : rw15 x args = some r) : flat r.1 = true ∧ args.all farV = true ∧ (r.2 → Rd Try.prog x.F 15 args r.1) := by
  unfold rw15 at h
  split at h
  · rename_i z0
    rw [Option.bind_eq_some_iff] at h
    obtain ⟨u, hu, h⟩ := h
    cases h
    rw [ovOf_v hu]
    exact ⟨rfl, rfl, fun hp => rd15 hp⟩
  · cases h
noncomputable def TR15 (x : MX) (f : FuncId) (args : List Value) : Option (Value × Prop) := if f == 15 then rw15 x args else none
theorem TR15_ok (x : MX) (f : FuncId) (args : List Value) (r : Value × Prop) (h : TR15 x f args = some r) : flat r.1 = true ∧ args.all farV = true ∧ (r.2 → Rd Try.prog x.F f args r.1) := by
  unfold TR15 at h
  by_cases e15 : (f == 15) = true
  · have hf : f = 15 := by simpa using e15
    subst hf
    exact rw15_ok x h
  rw [if_neg e15] at h
  cases h
noncomputable def KT15 (x : MX) : Given := { Given.rds Given.nothing x.F (TR15 x) with fits := true }
theorem KT15_ok (x : MX) : GivenOk Try.prog (KT15 x) := frames_fits ((GivenOk.nothing _).rds (TR15_ok x)) true
end
end ob
end Go.Proofs.Ytpfmilkddapfiaa
namespace Go.Proofs.Ytpfmilkddapfiaa
open Go.ChangeShapes Go.WideShapes Go.ChangeAt Go.RowKit Go.Cln
namespace ob
set_option linter.unusedVariables false
noncomputable section
end
end ob
end Go.Proofs.Ytpfmilkddapfiaa
namespace Go.Proofs.Ytpfmilkddapfiaa
open Go.ChangeShapes Go.WideShapes Go.ChangeAt Go.RowKit Go.Cln
namespace ob
set_option linter.unusedVariables false
noncomputable section
end
end ob
end Go.Proofs.Ytpfmilkddapfiaa
namespace Go.Proofs.Ytpfmilkddapfiaa
open Go.ChangeShapes Go.WideShapes Go.ChangeAt Go.RowKit Go.Cln
namespace ob
set_option linter.unusedVariables false
noncomputable section
end
end ob
end Go.Proofs.Ytpfmilkddapfiaa
namespace Go.Proofs.Ytpfmilkddapfiaa
open Go.ChangeShapes Go.WideShapes Go.ChangeAt Go.RowKit Go.Cln
namespace ob
set_option linter.unusedVariables false
noncomputable section
theorem capW_iff (x : MX) (P i : Nat) : capW x P i = false ↔ ¬ x.CK P i = 0 ∧ ¬ x.CK P i = 65 ∧ x.CM P i ≤ 100 ∧ (0 < i → x.CK P (i - 1) < x.CK P i) := by
  unfold capW nI
  simp only [Bool.or_eq_false_iff, Bool.and_eq_false_iff, decide_eq_false_iff_not, beq_eq_false_iff_ne, ne_eq]
  constructor
  · rintro ⟨h1, h2, h3, h4⟩
    refine ⟨h1, h2, by omega, fun h => ?_⟩
    rcases h4 with h4 | h4 <;> omega
  · rintro ⟨h1, h2, h3, h4⟩
    refine ⟨h1, h2, by omega, ?_⟩
    rcases Nat.eq_zero_or_pos i with h | h
    · exact .inl (by omega)
    · have := h4 h; exact .inr (by omega)
theorem okC_iff (x : MX) (P i : Nat) : okC x P i = true ↔ ¬ x.CK P i = 0 ∧ ¬ x.CK P i = 65 ∧ x.CM P i ≤ 100 := by
  unfold okC w61 nI
  rw [ix2_eq]
  simp only [Bool.not_eq_true', Bool.or_eq_false_iff, decide_eq_false_iff_not, beq_eq_false_iff_ne, ne_eq]
  constructor
  · rintro ⟨h1, h2, h3⟩; exact ⟨h1, h2, by omega⟩
  · rintro ⟨h1, h2, h3⟩; exact ⟨h1, h2, by omega⟩
theorem upC_iff (x : MX) (P i : Nat) : upC x P i = true ↔ x.CK P i < x.CK P (i + 1) := by
  unfold upC
  rw [ixp_eq, ixq_eq]
  simp only [Bool.not_eq_true', decide_eq_false_iff_not]
  omega
theorem right_iff (x : MX) (a : OV) : rightE x a = true ↔ w56 a = false ∧ w57 a = false ∧ w58 a = false ∧ (∀ i, i < a.n → okC x a.P i = true) ∧ (∀ i, i + 1 < a.n → upC x a.P i = true) := by
  unfold rightE
  rw [allB_iff]
  constructor
  · intro h
    have h0 := h 0 (by decide)
    have h1 := h 1 (by decide)
    have h2 := h 2 (by decide)
    have h3 := h 3 (by decide)
    have h4 := h 4 (by decide)
    simp only [fW, Bool.not_eq_true'] at h0 h1 h2 h3 h4
    unfold w59 at h3
    unfold w62 riseE at h4
    simp only [Bool.not_eq_false'] at h3 h4
    exact ⟨h0, h1, h2, allB_at h3, fun i hi => allB_at h4 i (by omega)⟩
  · rintro ⟨h0, h1, h2, h3, h4⟩ i hi
    have e3 : w59 x a = false := by unfold w59; rw [allB_all h3]; rfl
    have e4 : w62 x a = false := by unfold w62 riseE; rw [allB_all fun i hi => h4 i (by omega)]; rfl
    rcases i with _ | _ | _ | _ | _ | i
    · simp only [fW, h0]; rfl
    · simp only [fW, h1]; rfl
    · simp only [fW, h2]; rfl
    · simp only [fW, e3]; rfl
    · simp only [fW, e4]; rfl
    · omega
theorem right_eq {x : MX} {a : OV} (h0 : 0 ≤ a.hold) : rightE x a = (!earlyW a && allB (fun i => !capW x a.P i) a.n) := by
  rw [Bool.eq_iff_iff, right_iff, Bool.and_eq_true, allB_iff, Bool.not_eq_true']
  have e1 : (w56 a = false ∧ w57 a = false ∧ w58 a = false) ↔ earlyW a = false := by
    unfold w56 w57 w58 earlyW nI
    simp only [Bool.or_eq_false_iff, Bool.and_eq_false_iff, decide_eq_false_iff_not, beq_eq_false_iff_ne, bne_eq_false_iff_eq, ne_eq]
    constructor
    · rintro ⟨⟨h1, h2⟩, h3, h4⟩
      refine ⟨h1, ?_, ?_, h2, h4⟩ <;> rcases h3 with h3 | h3 <;> omega
    · rintro ⟨h1, h2, h3, h4, h5⟩
      refine ⟨⟨h1, h4⟩, ?_, h5⟩
      by_cases h : a.hold = 0
      · exact .inl h
      · exact .inr (by omega)
  constructor
  · rintro ⟨h1, h2, h3, h4, h5⟩
    refine ⟨e1.1 ⟨h1, h2, h3⟩, fun i hi => ?_⟩
    rw [Bool.not_eq_true', capW_iff]
    obtain ⟨k1, k2, k3⟩ := (okC_iff x a.P i).1 (h4 i hi)
    refine ⟨k1, k2, k3, fun hp => ?_⟩
    have := (upC_iff x a.P (i - 1)).1 (h5 (i - 1) (by omega))
    rwa [show i - 1 + 1 = i by omega] at this
  · rintro ⟨h1, h2⟩
    obtain ⟨k1, k2, k3⟩ := e1.2 h1
    have h3 : ∀ i, i < a.n → capW x a.P i = false := fun i hi => by have := h2 i hi; rwa [Bool.not_eq_true'] at this
    refine ⟨k1, k2, k3, fun i hi => ?_, fun i hi => ?_⟩
    · obtain ⟨q1, q2, q3, q4⟩ := (capW_iff x a.P i).1 (h3 i hi)
      exact (okC_iff x a.P i).2 ⟨q1, q2, q3⟩
    · obtain ⟨q1, q2, q3, q4⟩ := (capW_iff x a.P (i + 1)).1 (h3 (i + 1) hi)
      exact (upC_iff x a.P i).2 (q4 (by omega))
noncomputable def lenE (x : MX) (a : OV) : Nat → Nat
  | 0 => 6
  | i + 1 => lenE x a i + (2 + x.CM a.P i)
theorem len29 {x : MX} {a : OV} (hO : capOk x a.P a.n) : ∀ i, i ≤ a.n → (acc29 x a i).length = lenE x a i
  | 0, _ => rfl
  | i + 1, hi => by
    obtain ⟨b1, b2⟩ := hO.2.2 i (by omega)
    have hr : (rowK x a.P i).length = x.CM a.P i := by have := rowK_len (x := x) (P := a.P) (i := i) (by rw [ix3_eq]; exact b1); rwa [ix3_eq] at this
    unfold acc29 lenE
    rw [List.length_append, List.length_append, two29_len, hr, len29 hO i (by omega)]
theorem len47 {x : MX} {a : OV} (hO : capOk x a.P a.n) : ∀ i, i ≤ a.n → (capsL x a i).length = lenE x a i
  | 0, _ => rfl
  | i + 1, hi => by
    obtain ⟨b1, b2⟩ := hO.2.2 i (by omega)
    have hr : (rowK2 x a.P i).length = x.CM a.P i := by have := rowK2_len (x := x) (P := a.P) (i := i) (by rw [ix2_eq]; exact b1); rwa [ix2_eq] at this
    unfold capsL lenE
    rw [List.length_append, List.length_append, two47_len, hr, len47 hO i (by omega)]
theorem lenE_keeps {x y : MX} {a : OV} (hk : Keeps x.F y.F) (hn : a.n ≤ x.CN a.P) : ∀ i, i ≤ a.n → lenE y a i = lenE x a i
  | 0, _ => rfl
  | i + 1, hi => by
    obtain ⟨_, k1, k2, k3⟩ := kp_cap hk (j := i) (n := a.n) (by omega) hn
    unfold lenE
    rw [lenE_keeps hk hn i (by omega), k3]
theorem capW_keeps {x y : MX} {P n : Nat} (hk : Keeps x.F y.F) (hn : n ≤ x.CN P) {i : Nat} (hi : i < n) : capW y P i = capW x P i := by
  obtain ⟨_, k1, k2, k3⟩ := kp_cap hk hi hn
  obtain ⟨_, j1, j2, j3⟩ := kp_cap hk (j := i - 1) (n := n) (by omega) hn
  unfold capW
  rw [k1, k3, j1]
theorem allB_congr {f g : Nat → Bool} {n : Nat} (h : ∀ i, i < n → f i = g i) : allB f n = allB g n := by
  rw [Bool.eq_iff_iff, allB_iff, allB_iff]
  exact ⟨fun k i hi => by rw [← h i hi]; exact k i hi, fun k i hi => by rw [h i hi]; exact k i hi⟩
theorem check_eq {x y : MX} {a : OV} (hO : capOk x a.P a.n) (hk : Keeps x.F y.F) (h0 : 0 ≤ a.hold) : check13 y a = check15 x a := by
  unfold check13 check15
  rw [right_eq h0, allB_congr (f := fun i => !capW y a.P i) (g := fun i => !capW x a.P i) fun i hi => by rw [capW_keeps hk hO.1 hi]]
  rw [len29 (kp_capOk hk hO) a.n (Nat.le_refl _), lenE_keeps hk hO.1 a.n (Nat.le_refl _)]
  have hl : (behE x a).length = 2 + lenE x a a.n := by unfold behE; rw [List.length_append, len47 hO a.n (Nat.le_refl _)]; rfl
  rw [hl, show nI (2 + lenE x a a.n) = nI (lenE x a a.n) + 2 by unfold nI; omega]
  cases earlyW a
  · simp
  · simp
end
end ob
end Go.Proofs.Ytpfmilkddapfiaa
