/- Read off the code by the clean reading. -/
import Derived.Test.YtpfmilkddapfiaaClnMj
set_option linter.unusedVariables false
set_option linter.unusedSimpArgs false
set_option linter.deprecated false
set_option maxRecDepth 100000
namespace Go.Proofs.Ytpfmilkddapfiaa
open Go.ChangeShapes Go.WideShapes Go.ChangeAt Go.RowKit Go.Cln
namespace ob
set_option linter.unusedVariables false
noncomputable section
noncomputable def rw30 (x : MX) (args : List Value) : Option (Value × Prop) := match args with
  | [.agg z0] => (ovOf z0).bind fun u => some (.bool (rightE x u), u.n ≤ x.CN u.P ∧ u.n ≤ 1000)
  | _ => none
theorem rw30_ok (x : MX) {args : List Value} {r : Value × Prop} (h : rw30 x args = some r) : flat r.1 = true ∧ args.all farV = true ∧ (r.2 → Rd Try.prog x.F 30 args r.1) := by
  unfold rw30 at h
  split at h
  · rename_i z0
    rw [Option.bind_eq_some_iff] at h
    obtain ⟨u, hu, h⟩ := h
    cases h
    rw [ovOf_v hu]
    exact ⟨rfl, rfl, fun hp => rd30 hp⟩
  · cases h
noncomputable def TR30 (x : MX) (f : FuncId) (args : List Value) : Option (Value × Prop) := if f == 30 then rw30 x args else none
theorem TR30_ok (x : MX) (f : FuncId) (args : List Value) (r : Value × Prop) (h : TR30 x f args = some r) : flat r.1 = true ∧ args.all farV = true ∧ (r.2 → Rd Try.prog x.F f args r.1) := by
  unfold TR30 at h
  by_cases e30 : (f == 30) = true
  · have hf : f = 30 := by simpa using e30
    subst hf
    exact rw30_ok x h
  rw [if_neg e30] at h
  cases h
noncomputable def KT30 (x : MX) : Given := { Given.rds Given.nothing x.F (TR30 x) with fits := true }
theorem KT30_ok (x : MX) : GivenOk Try.prog (KT30 x) := frames_fits ((GivenOk.nothing _).rds (TR30_ok x)) true
def thnC : Code → Code
  | .cond _ a _ => a
  | c => c
def elsC : Code → Code
  | .cond _ _ b => b
  | c => c
def blkC : Code → Code
  | .block _ b => b
  | c => c
def b15 : Code := ((Try.prog.funcs[15]?).bind (·.body)).getD .skip
theorem fn15 : (Try.prog.funcs[15]?).map (fun f => (f.body, f.results.toList, f.ntmps)) = some (some b15, [.tmp 2], 12) := by kernel_rfl
def e15 : Code := sndC (sndC b15)
def c15 : Code := sndC (blkC (fstC (sndC b15)))
def y15 : Code := elsC c15
def o15 : Array Oper := opsC (fstC y15)
def d15 : Code := sndC y15
theorem c15_eq : c15 = .cond (.tmp 3) (thnC c15) y15 := by kernel_rfl
theorem y15_eq : y15 = .seq (.region 3 o15 false) d15 := by kernel_rfl
theorem o15_eq : List.range o15.size = [0] ++ (1 :: ([2, 3, 4] ++ [])) := by kernel_rfl
noncomputable def z15 (x : MX) (a : OV) : St := { smSt 1 [some (.fam x.F)] [] with tmps := [a.v] ++ List.replicate 11 undef, defers := [] }
noncomputable def go15 (K : Given) (c : Code) (s : St) (o : List (Option Bool)) : Option (Exit × St) := (mk Try.prog K 300).code 15 none c { s with obl := True, orc := o }
noncomputable def gd15 (K : Given) (s : St) (o : List (Option Bool)) : Option (St × Code) := down (mk Try.prog K 300) 15 none [2, 3, 0, 2] b15 { s with obl := True, orc := o }
noncomputable def check15 (x : MX) (a : OV) : Int := bif rightE x a then (bif decide (nI (behE x a).length > 255) then 3 else 0) else 2
noncomputable def tm15a (v : VF) (a : OV) (u : Value) : List Value := (a.v :: .pointer (some ⟨1, 0, none⟩) :: v 2 :: u :: vs v 4 8 [])
theorem tm15a_dead {v : VF} {a : OV} {u : Value} {B : Nat → Bool} (h : ∀ i, DeadV (v i)) (hB : ∀ i, ((Nat.ble 0 i && Nat.ble i 1) || Nat.beq i 3) = true → B i = true) : deadT B 0 (tm15a v a u) :=
  dl (hB 0 rfl) (dl (hB 1 rfl) (dn (h 2) (dl (hB 3 rfl) (deadT_vs h 8 (trivial)))))
noncomputable def tm15b (v : VF) (a : OV) : List Value := (a.v :: .pointer (some ⟨1, 0, none⟩) :: vs v 2 6 (a.v :: vs v 9 3 []))
theorem tm15b_dead {v : VF} {a : OV} {B : Nat → Bool} (h : ∀ i, DeadV (v i)) (hB : ∀ i, ((Nat.ble 0 i && Nat.ble i 1) || Nat.beq i 8) = true → B i = true) : deadT B 0 (tm15b v a) :=
  dl (hB 0 rfl) (dl (hB 1 rfl) (deadT_vs h 6 (dl (hB 8 rfl) (deadT_vs h 3 (trivial)))))
noncomputable def tm15r (v : VF) (a : OV) (u : Value) : List Value := (a.v :: .pointer (some ⟨1, 0, none⟩) :: vs v 2 6 (a.v :: u :: v 10 :: v 11 :: []))
noncomputable def tm15c (v : VF) (a : OV) (u : Value) : List Value := (a.v :: .pointer (some ⟨1, 0, none⟩) :: vs v 2 5 (u :: vs v 8 4 []))
theorem tm15c_dead {v : VF} {a : OV} {u : Value} {B : Nat → Bool} (h : ∀ i, DeadV (v i)) (hB : ∀ i, ((Nat.ble 0 i && Nat.ble i 1) || Nat.beq i 7) = true → B i = true) : deadT B 0 (tm15c v a u) :=
  dl (hB 0 rfl) (dl (hB 1 rfl) (deadT_vs h 5 (dl (hB 7 rfl) (deadT_vs h 4 (trivial)))))
def WA15 (i : Nat) : Bool := Nat.beq i 2 || (Nat.ble 5 i && Nat.ble i 6)
noncomputable def VA15 (v : VF) : VF := fun i => match Nat.beq i 4 with
  | true => .agg #[junk, junk, junk, junk]
  | false => match WA15 i with
  | true => junk
  | false => v i
def BA15 (i : Nat) : Bool := ((Nat.ble 0 i && Nat.ble i 1) || Nat.beq i 3) || WA15 i || Nat.beq i 4
theorem VA15_dead {v : VF} (h : ∀ i, DeadV (v i)) (i : Nat) : DeadV (VA15 v i) := by
  unfold VA15
  split
  · exact ⟨rfl, fun _ => rfl, fun _ => rfl⟩
  split
  · exact DeadV.junk
  · exact h i
theorem lvA15 (i : Nat) (h : ((Nat.ble 0 i && Nat.ble i 1) || Nat.beq i 3) = true) : BA15 i = true := jl (jl h)
def WB15 (i : Nat) : Bool := Nat.beq i 3
noncomputable def VB15 (v : VF) : VF := fun i => match WB15 i with
  | true => junk
  | false => v i
def BB15 (i : Nat) : Bool := ((Nat.ble 0 i && Nat.ble i 1) || Nat.beq i 8) || WB15 i
theorem VB15_dead {v : VF} (h : ∀ i, DeadV (v i)) (i : Nat) : DeadV (VB15 v i) := jD (W := WB15) h i
theorem lvB15 (i : Nat) (h : ((Nat.ble 0 i && Nat.ble i 1) || Nat.beq i 8) = true) : BB15 i = true := jl h
def WC15 (i : Nat) : Bool := (Nat.ble 9 i && Nat.ble i 11)
noncomputable def VC15 (v : VF) : VF := fun i => match Nat.beq i 8 with
  | true => .agg #[junk, junk, junk, junk]
  | false => match WC15 i with
  | true => junk
  | false => v i
def BC15 (i : Nat) : Bool := ((Nat.ble 0 i && Nat.ble i 1) || Nat.beq i 7) || WC15 i || Nat.beq i 8
theorem VC15_dead {v : VF} (h : ∀ i, DeadV (v i)) (i : Nat) : DeadV (VC15 v i) := by
  unfold VC15
  split
  · exact ⟨rfl, fun _ => rfl, fun _ => rfl⟩
  split
  · exact DeadV.junk
  · exact h i
theorem lvC15 (i : Nat) (h : ((Nat.ble 0 i && Nat.ble i 1) || Nat.beq i 7) = true) : BC15 i = true := jl (jl h)
def WN15 (i : Nat) : Bool := false
noncomputable def VN15 (v : VF) : VF := fun i => match WN15 i with
  | true => junk
  | false => v i
def BN15 (i : Nat) : Bool := ((Nat.ble 0 i && Nat.ble i 1) || Nat.beq i 7) || WN15 i
theorem VN15_dead {v : VF} (h : ∀ i, DeadV (v i)) (i : Nat) : DeadV (VN15 v i) := jD (W := WN15) h i
theorem lvN15 (i : Nat) (h : ((Nat.ble 0 i && Nat.ble i 1) || Nat.beq i 7) = true) : BN15 i = true := jl h
noncomputable def s15a (x : MX) (a : OV) (u : Value) (v : VF) : St := ⟨tm15a v a u, [], Tr.rebuild (g23 x a) 2, 2, 1, [], fun _ => false, True, []⟩
noncomputable def s15b (x : MX) (a : OV) (v : VF) : St := ⟨tm15b v a, [], Tr.rebuild (g23 x a) 2, 2, 1, [], fun _ => false, True, []⟩
noncomputable def s15r (x : MX) (a : OV) (u : Value) (v : VF) : St := ⟨tm15r v a u, [], Tr.rebuild (g23 x a) 2, 2, 1, [], fun _ => false, True, []⟩
noncomputable def s15c (x : MX) (a : OV) (u : Value) (v : VF) : St := ⟨tm15c v a u, [], Tr.rebuild (g23 x a) 2, 2, 1, [], fun _ => false, True, []⟩
theorem k15d (x : MX) (a : OV) : (gd15 (KT30 x) (z15 x a) []).map (fun r => (r.2, r.1.obl, seenInT BA15 r.1 (s15a x a (.bool (!rightE x a)) (VA15 vU)) [0, 1])) = some (c15, (True ∧ (x.F = x.F ∧ a.n ≤ x.CN a.P ∧ a.n ≤ 1000)), seenAsT BA15 (s15a x a (.bool (!rightE x a)) (VA15 vU)) [0, 1] 2) := by kernel_rfl
theorem ok15d (x0 x : MX) (a : OV) (b : Bool) (v : VF) : picOkT BA15 (z15 x0 a) (s15a x a (.bool b) (VA15 v)) [0, 1] = true := by kernel_rfl
theorem k15e (x : MX) (a : OV) (b : Bool) (v : VF) : (go15 KN (thnC c15) (s15a x a (.bool b) v) []).bind (fun r => (results1 Try.prog r.2 [.tmp 2]).map fun q => (r.1, q.2.obl, r.2.defers, oneOf q.1)) = some (.ret, True, [], .int .i64 2) := by kernel_rfl
theorem k15b (x : MX) (a : OV) (b : Bool) (v : VF) : (runSeq Try.prog KN (mk Try.prog KN 200) o15 [0] { s15a x a (.bool b) v with obl := True, orc := [] }).map (fun r => (r.obl, seenInT BB15 r (s15b x a (VB15 v)) [0, 1])) = some (True, seenAsT BB15 (s15b x a (VB15 v)) [0, 1] 2) := by kernel_rfl
theorem ok15b (x0 x : MX) (a : OV) (v : VF) : picOkT BB15 (z15 x0 a) (s15b x a (VB15 v)) [0, 1] = true := by kernel_rfl
theorem k15c (x : MX) (a : OV) (P n c : Nat) (v : VF) : (runSeq Try.prog KN (mk Try.prog KN 200) o15 [2, 3, 4] { s15r x a (PB_ P n c) v with obl := True, orc := [] }).map (fun r => (r.obl, seenInT BC15 r (s15c x a (.bool (decide (nI n > 255))) (VC15 v)) [0, 1])) = some (True, seenAsT BC15 (s15c x a (.bool (decide (nI n > 255))) (VC15 v)) [0, 1] 2) := by kernel_rfl
theorem ok15c (x0 x : MX) (a : OV) (b : Bool) (v : VF) : picOkT BC15 (z15 x0 a) (s15c x a (.bool b) (VC15 v)) [0, 1] = true := by kernel_rfl
theorem k15t (x : MX) (a : OV) (b : Bool) (v : VF) : (go15 KN d15 (s15c x a (.bool b) v) [some true]).bind (fun r => (results1 Try.prog r.2 [.tmp 2]).map fun q => (r.1, q.2.obl, r.2.defers, oneOf q.1)) = some (.ret, True ∧ b = true, [], .int .i64 3) := by kernel_rfl
theorem k15f (x : MX) (a : OV) (b : Bool) (v : VF) : (go15 KN d15 (s15c x a (.bool b) v) [some false]).map (fun r => (r.1, r.2.obl, seenInT BN15 r.2 (s15c x a (.bool false) (VN15 v)) [0, 1])) = some (.normal, True ∧ b = false, seenAsT BN15 (s15c x a (.bool false) (VN15 v)) [0, 1] 2) := by kernel_rfl
theorem ok15f (x0 x : MX) (a : OV) (b : Bool) (v : VF) : picOkT BN15 (z15 x0 a) (s15c x a (.bool b) (VN15 v)) [0, 1] = true := by kernel_rfl
theorem k15g (x : MX) (a : OV) (b : Bool) (v : VF) : (go15 KN e15 (s15c x a (.bool b) v) []).bind (fun r => (results1 Try.prog r.2 [.tmp 2]).map fun q => (r.1, q.2.obl, r.2.defers, oneOf q.1)) = some (.ret, True, [], .int .i64 0) := by kernel_rfl
theorem up15 (x : MX) (a : OV) (ρ0 : Nat → PB) (W0 : World) (Q_ : Exit → St → Prop) : upW Try.prog none (z15 x a) ρ0 W0 [2, 3, 0, 2] b15 Q_ = fun e s => (fun e s => (e = .normal ∧ StepW Try.prog none (z15 x a) ρ0 W0 e15 s Q_) ∨ (e ≠ .normal ∧ Q_ e s)) (blockOut 0 e) s := by kernel_rfl
theorem set15 (a : OV) (u : Value) (v : VF) : setL (tm15b v a) 9 u = tm15r v a u := by kernel_rfl
theorem g15b0 (x : MX) (a : OV) (v : VF) : (s15b x a v).heap.get 0 = some (.fam x.F) := by kernel_rfl
theorem g15r0 (x : MX) (a : OV) (u : Value) (v : VF) : (s15r x a u v).heap.get 0 = some (.fam x.F) := by kernel_rfl
def Q15 (v : Int) : Exit → St → Prop := fun e s' => leaves? e = true ∧ s'.defers = [] ∧ ResV Try.prog [.tmp 2] (.int .i64 v) s'
theorem rd15 {x : MX} {a : OV} (hO : capOk x a.P a.n) : Rd Try.prog x.F 15 [a.v] (.int .i64 (check15 x a)) := by
  unfold check15
  cases hf : Try.prog.funcs[15]? with
  | none => have := fn15; rw [hf] at this; cases this
  | some fn =>
  have hfn := fn15
  rw [hf] at hfn
  simp only [Option.map_some, Option.some.injEq, Prod.mk.injEq] at hfn
  obtain ⟨q1, q2, q3⟩ := hfn
  refine Rd.ofG hf q1 q2 rfl ?_
  rw [q3]
  show StepG Try.prog none (z15 x a) b15 (z15 x a) (Q15 (bif rightE x a then (bif decide (nI (behE x a).length > 255) then 3 else 0) else 2))
  refine StepW.all fun ρ0 W0 _ => ?_
  refine StepW.downs pg (KT30_ok x) (k15d x a) ⟨trivial, rfl, hO.1, hO.2.1⟩ (tm15a_dead (VA15_dead vU_dead) lvA15) (g23_ok x a) rfl (ok15d x x a _ vU) ?_
  rw [up15, c15_eq]
  have hv := VA15_dead vU_dead
  cases hr : rightE x a with
  | false =>
    refine StepW.cond (b := true) rfl ?_
    rw [if_pos rfl]
    refine ((StepG.ranV (s0 := z15 x a) (rd := none) pg KN_ok (k15e x a true _) trivial (show 1 ≤ 2 by decide)).at ρ0 W0).mono ?_
    rintro e s ⟨rfl, h1, h2⟩
    exact .inr ⟨(by intro h; cases h), rfl, h1, h2⟩
  | true =>
    refine StepW.cond (b := false) rfl ?_
    rw [if_neg (by decide), y15_eq]
    refine StepW.seq (StepW.region ?_)
    rw [o15_eq]
    refine StepO.run pg KN_ok (k15b x a false _) trivial (show 1 ≤ 2 by decide) (tm15b_dead (VB15_dead hv) lvB15) (g23_ok x a) rfl (ok15b x x a _) ?_
    refine StepO.call' (F := x.F) (g := 25) (vs := [a.v]) (f := .func 25) (args := #[.tmp 8]) (dst := some 9) pg (by kernel_rfl) trivial rfl rfl fn25 rfl (g15b0 x a _) rfl (beh25 hO) ?_
    rintro F' v' hf ⟨y, P, c, rfl, rfl, hk, hs⟩
    refine ⟨s15r y a (PB_ P (behE x a).length c) (VB15 (VA15 vU)), ⟨rfl, rfl, rfl, rfl, rfl, (set15 a _ _).symm, g15r0 y a _ _, fun j hj => getr (by decide) (g23_rest x y a) j hj⟩, ?_⟩
    refine StepO.run pg KN_ok (k15c y a P _ c _) trivial (show 1 ≤ 2 by decide) (tm15c_dead (VC15_dead (VB15_dead hv)) lvC15) (g23_ok y a) rfl (ok15c x y a _ _) ?_
    refine StepO.nil (.inl ⟨rfl, ?_⟩)
    show StepW Try.prog none (z15 x a) ρ0 W0 d15 (s15c y a (.bool (decide (nI (behE x a).length > 255))) (VC15 (VB15 (VA15 vU)))) fun e s => (fun e s => (e = .normal ∧ StepW Try.prog none (z15 x a) ρ0 W0 e15 s (Q15 (bif decide (nI (behE x a).length > 255) then 3 else 0))) ∨ (e ≠ .normal ∧ Q15 (bif decide (nI (behE x a).length > 255) then 3 else 0) e s)) (blockOut 0 e) s
    generalize decide (nI (behE x a).length > 255) = b
    cases b with
    | true =>
      refine ((StepG.ranV (s0 := z15 x a) (rd := none) pg KN_ok (k15t y a true _) ⟨trivial, rfl⟩ (show 1 ≤ 2 by decide)).at ρ0 W0).mono ?_
      rintro e s ⟨rfl, h1, h2⟩
      exact .inr ⟨(by intro h; cases h), rfl, h1, h2⟩
    | false =>
      refine ((StepG.stdT (s0 := z15 x a) (rd := none) pg KN_ok (k15f y a false _) ⟨trivial, rfl⟩ (show 1 ≤ 2 by decide) (tm15c_dead (VN15_dead (VC15_dead (VB15_dead hv))) lvN15) (g23_ok y a) rfl (ok15f x y a _ _)).at ρ0 W0).mono ?_
      rintro e s ⟨rfl, rfl⟩
      refine .inl ⟨rfl, ?_⟩
      refine ((StepG.ranV (s0 := z15 x a) (rd := none) pg KN_ok (k15g y a false _) trivial (show 1 ≤ 2 by decide)).at ρ0 W0).mono ?_
      rintro e s ⟨rfl, h1, h2⟩
      exact ⟨rfl, h1, h2⟩
end
end ob
end Go.Proofs.Ytpfmilkddapfiaa
namespace Go.Proofs.Ytpfmilkddapfiaa
open Go.ChangeShapes Go.WideShapes Go.ChangeAt Go.RowKit Go.Cln
namespace ob
set_option linter.unusedVariables false
noncomputable section
def b40 : Code := ((Try.prog.funcs[40]?).bind (·.body)).getD .skip
theorem fn40 : (Try.prog.funcs[40]?).map (fun f => (f.body, f.results.toList, f.ntmps)) = some (some b40, [.tmp 3], 14) := by kernel_rfl
def e40 : Code := sndC b40
def o40 : Array Oper := opsC (fstC e40)
def f40 : Code := sndC e40
theorem e40_eq : b40 = .seq (fstC b40) (.seq (.region 1 o40 false) f40) := by kernel_rfl
theorem o40_eq : List.range o40.size = [0, 1, 2] ++ (3 :: ([4, 5, 6, 7, 8] ++ [])) := by kernel_rfl
abbrev a40 (k : Int) (Q m c : Nat) : List Value := [cv k Q m c, .pointer (some ⟨1, 0, none⟩)]
noncomputable def z40 (x : MX) (b : OV) (k : Int) (Q m c : Nat) : St := { smSt 2 (H2 x.F b.l 26) [] with tmps := a40 k Q m c ++ List.replicate 12 undef, defers := [] }
noncomputable def go40 (K : Given) (c : Code) (s : St) (o : List (Option Bool)) : Option (Exit × St) := (mk Try.prog K 300).code 40 none c { s with obl := True, orc := o }
noncomputable def tm40s (v : VF) (b : OV) (k : Int) (Q m c : Nat) : List Value := (cv k Q m c :: .pointer (some ⟨1, 0, none⟩) :: .pointer (some ⟨2, 0, none⟩) :: vs v 3 11 [])
theorem tm40s_dead {v : VF} {b : OV} {k : Int} {Q m c : Nat} {B : Nat → Bool} (h : ∀ i, DeadV (v i)) (hB : ∀ i, ((Nat.ble 0 i && Nat.ble i 2)) = true → B i = true) : deadT B 0 (tm40s v b k Q m c) :=
  dl (hB 0 rfl) (dl (hB 1 rfl) (dl (hB 2 rfl) (deadT_vs h 11 (trivial))))
noncomputable def tm40a (v : VF) (b : OV) (k : Int) (Q m c : Nat) : List Value := (cv k Q m c :: .pointer (some ⟨1, 0, none⟩) :: .pointer (some ⟨2, 0, none⟩) :: vs v 3 4 (b.v :: v 8 :: .int .u8 k :: vs v 10 4 []))
theorem tm40a_dead {v : VF} {b : OV} {k : Int} {Q m c : Nat} {B : Nat → Bool} (h : ∀ i, DeadV (v i)) (hB : ∀ i, ((Nat.ble 0 i && Nat.ble i 2) || Nat.beq i 7 || Nat.beq i 9) = true → B i = true) : deadT B 0 (tm40a v b k Q m c) :=
  dl (hB 0 rfl) (dl (hB 1 rfl) (dl (hB 2 rfl) (deadT_vs h 4 (dl (hB 7 rfl) (dn (h 8) (dl (hB 9 rfl) (deadT_vs h 4 (trivial))))))))
noncomputable def tm40b (v : VF) (b : OV) (k : Int) (Q m c : Nat) (u : Value) : List Value := (cv k Q m c :: .pointer (some ⟨1, 0, none⟩) :: .pointer (some ⟨2, 0, none⟩) :: vs v 3 4 (b.v :: v 8 :: .int .u8 k :: u :: vs v 11 3 []))
noncomputable def tm40e (v : VF) (b : OV) (k : Int) (Q m c : Nat) (u : Value) : List Value := (cv k Q m c :: .pointer (some ⟨1, 0, none⟩) :: .pointer (some ⟨2, 0, none⟩) :: v 3 :: v 4 :: u :: vs v 6 8 [])
theorem tm40e_dead {v : VF} {b : OV} {k : Int} {Q m c : Nat} {u : Value} {B : Nat → Bool} (h : ∀ i, DeadV (v i)) (hB : ∀ i, ((Nat.ble 0 i && Nat.ble i 2) || Nat.beq i 5) = true → B i = true) : deadT B 0 (tm40e v b k Q m c u) :=
  dl (hB 0 rfl) (dl (hB 1 rfl) (dl (hB 2 rfl) (dn (h 3) (dn (h 4) (dl (hB 5 rfl) (deadT_vs h 8 (trivial)))))))
def WS40 (i : Nat) : Bool := Nat.beq i 3
noncomputable def VS40 (v : VF) : VF := fun i => match WS40 i with
  | true => junk
  | false => v i
def BS40 (i : Nat) : Bool := ((Nat.ble 0 i && Nat.ble i 2)) || WS40 i
theorem VS40_dead {v : VF} (h : ∀ i, DeadV (v i)) (i : Nat) : DeadV (VS40 v i) := jD (W := WS40) h i
theorem lvS40 (i : Nat) (h : ((Nat.ble 0 i && Nat.ble i 2)) = true) : BS40 i = true := jl h
def WA40 (i : Nat) : Bool := Nat.beq i 8
noncomputable def VA40 (v : VF) : VF := fun i => match WA40 i with
  | true => junk
  | false => v i
def BA40 (i : Nat) : Bool := ((Nat.ble 0 i && Nat.ble i 2) || Nat.beq i 7 || Nat.beq i 9) || WA40 i
theorem VA40_dead {v : VF} (h : ∀ i, DeadV (v i)) (i : Nat) : DeadV (VA40 v i) := jD (W := WA40) h i
theorem lvA40 (i : Nat) (h : ((Nat.ble 0 i && Nat.ble i 2) || Nat.beq i 7 || Nat.beq i 9) = true) : BA40 i = true := jl h
def WE40 (i : Nat) : Bool := Nat.beq i 4 || Nat.beq i 9 || (Nat.ble 11 i && Nat.ble i 12)
noncomputable def VE40 (v : VF) : VF := fun i => match Nat.beq i 7 with
  | true => .agg #[junk, junk, junk, junk]
  | false => match Nat.beq i 10 with
  | true => .tuple #[junk, junk]
  | false => match Nat.beq i 6 with
  | true => .tuple #[junk, junk]
  | false => match WE40 i with
  | true => junk
  | false => v i
def BE40 (i : Nat) : Bool := ((Nat.ble 0 i && Nat.ble i 2) || Nat.beq i 5) || WE40 i || Nat.beq i 7 || Nat.beq i 10 || Nat.beq i 6
theorem VE40_dead {v : VF} (h : ∀ i, DeadV (v i)) (i : Nat) : DeadV (VE40 v i) := by
  unfold VE40
  split
  · exact ⟨rfl, fun _ => rfl, fun _ => rfl⟩
  split
  · exact ⟨rfl, fun _ => rfl, fun _ => rfl⟩
  split
  · exact ⟨rfl, fun _ => rfl, fun _ => rfl⟩
  split
  · exact DeadV.junk
  · exact h i
theorem lvE40 (i : Nat) (h : ((Nat.ble 0 i && Nat.ble i 2) || Nat.beq i 5) = true) : BE40 i = true := jl (jl (jl (jl h)))
noncomputable def h40 (x : MX) (b : OV) (k : Int) (Q m c : Nat) : Nat → Option Ob := fun j => match j with
  | 0 => some (.fam x.F)
  | 1 => some (.cells (.lit b.l) 26)
  | 2 => some (.cells (.lit [.int .u8 k, PB_ Q m c]) 53)
  | _ => none
theorem h40_ok (x : MX) (b : OV) (k : Int) (Q m c : Nat) : Go.Cln.RowsIn (h40 x b k Q m c) := by
  intro b' n' w' g' t h
  unfold h40 at h
  split at h <;> cases h
noncomputable def s40s (x : MX) (b : OV) (k : Int) (Q m c : Nat) (v : VF) : St := ⟨tm40s v b k Q m c, [], Tr.rebuild (h40 x b k Q m c) 3, 3, 2, [], fun _ => false, True, []⟩
noncomputable def s40a (x : MX) (b : OV) (k : Int) (Q m c : Nat) (v : VF) : St := ⟨tm40a v b k Q m c, [], Tr.rebuild (h40 x b k Q m c) 3, 3, 2, [], fun _ => false, True, []⟩
noncomputable def s40b (x : MX) (b : OV) (k : Int) (Q m c : Nat) (u : Value) (v : VF) : St := ⟨tm40b v b k Q m c u, [], Tr.rebuild (h40 x b k Q m c) 3, 3, 2, [], fun _ => false, True, []⟩
noncomputable def s40e (x : MX) (b : OV) (k : Int) (Q m c : Nat) (u : Value) (v : VF) : St := ⟨tm40e v b k Q m c u, [], Tr.rebuild (h40 x b k Q m c) 3, 3, 2, [], fun _ => false, True, []⟩
theorem k40N (x : MX) (b : OV) (k : Int) (Q m c : Nat) : (go40 (KC1 x (-1)) b40 (z40 x b k Q m c) []).bind (fun r => (results1 Try.prog r.2 [.tmp 3]).map fun q => (r.1, q.2.obl, r.2.defers, oneOf q.1)) = some (.ret, (True ∧ (x.F = x.F ∧ capOk x b.P b.n ∧ whereI (isntC x k b.P) b.n = -1)), [], .bool false) := by kernel_rfl
theorem k40S (x : MX) (b : OV) (k : Int) (Q m c : Nat) (j : Nat) : (go40 (KC1 x (nI j)) b40 (z40 x b k Q m c) [none, some true, some false, none, some true, none, some false]).bind (fun r => (results1 Try.prog r.2 [.tmp 3]).map fun q => (r.1, q.2.obl, r.2.defers, oneOf q.1)) = some (.ret, ((((((True ∧ (x.F = x.F ∧ capOk x b.P b.n ∧ whereI (isntC x k b.P) b.n = nI j)) ∧ (0 ≤ nI j ∧ nI j < nI b.n)) ∧ ((0 + j * 2 + 1) % 2 = 1 ∧ (0 + j * 2 + 1) / 2 < x.CN b.P)) ∧ (0 < x.CM b.P (ix3 j) ∨ 0 < x.CC b.P (ix3 j))) ∧ (decide (0 + x.CM b.P (ix3 j) ≤ 0) = false)) ∧ ((x.CM b.P (ix3 j) = 0 ∨ 0 + x.CM b.P (ix3 j) ≤ (x.D (x.CQ b.P (ix3 j))).length) ∧ 0 + 0 ≤ ([] : List Int).length ∧ (0 + x.CM b.P (ix3 j)) * 1 ≤ mostBytes ∧ 0 + x.CM b.P (ix3 j) ≤ mostBytes)), [], .bool true) := by kernel_rfl
theorem k40s (x : MX) (b : OV) (k : Int) (Q m c : Nat) : (go40 KN (fstC b40) (z40 x b k Q m c) []).map (fun r => (r.1, r.2.obl, seenInT BS40 r.2 (s40s x b k Q m c (VS40 vU)) [0, 1, 2])) = some (.normal, True, seenAsT BS40 (s40s x b k Q m c (VS40 vU)) [0, 1, 2] 3) := by kernel_rfl
theorem ok40s (x0 : MX) (x : MX) (b : OV) (k : Int) (Q m c : Nat) (v : VF) : picOkT BS40 (z40 x0 b k Q m c) (s40s x b k Q m c (VS40 v)) [0, 1, 2] = true := by kernel_rfl
theorem k40a (x : MX) (b : OV) (k : Int) (Q m c : Nat) (v : VF) : (runSeq Try.prog KN (mk Try.prog KN 200) o40 [0, 1, 2] { s40s x b k Q m c v with obl := True, orc := [] }).map (fun r => (r.obl, seenInT BA40 r (s40a x b k Q m c (VA40 v)) [0, 1, 2])) = some (True, seenAsT BA40 (s40a x b k Q m c (VA40 v)) [0, 1, 2] 3) := by kernel_rfl
theorem ok40a (x0 : MX) (x : MX) (b : OV) (k : Int) (Q m c : Nat) (v : VF) : picOkT BA40 (z40 x0 b k Q m c) (s40a x b k Q m c (VA40 v)) [0, 1, 2] = true := by kernel_rfl
theorem k40e (x : MX) (b : OV) (k : Int) (Q m c : Nat) (v : VF) : (runSeq Try.prog KN (mk Try.prog KN 200) o40 [4, 5, 6, 7, 8] { s40b x b k Q m c (.tuple #[PB_ 0 0 0, .bool true]) v with obl := True, orc := [] }).map (fun r => (r.obl, seenInT BE40 r (s40e x b k Q m c (.bool true) (VE40 v)) [0, 1, 2])) = some (True, seenAsT BE40 (s40e x b k Q m c (.bool true) (VE40 v)) [0, 1, 2] 3) := by kernel_rfl
theorem ok40e (x0 : MX) (x : MX) (b : OV) (k : Int) (Q m c : Nat) (v : VF) : picOkT BE40 (z40 x0 b k Q m c) (s40e x b k Q m c (.bool true) (VE40 v)) [0, 1, 2] = true := by kernel_rfl
theorem k40f (x : MX) (b : OV) (k : Int) (Q m c : Nat) (v : VF) : (go40 KN f40 (s40e x b k Q m c (.bool true) v) []).bind (fun r => (results1 Try.prog r.2 [.tmp 3]).map fun q => (r.1, q.2.obl, r.2.defers, oneOf q.1)) = some (.ret, True, [], .bool true) := by kernel_rfl
theorem set40 (b : OV) (k : Int) (Q m c : Nat) (u : Value) (v : VF) : setL (tm40a v b k Q m c) 10 u = tm40b v b k Q m c u := by kernel_rfl
theorem g40a0 (x : MX) (b : OV) (k : Int) (Q m c : Nat) (v : VF) : (s40a x b k Q m c v).heap.get 0 = some (.fam x.F) := by kernel_rfl
theorem g40b0 (x : MX) (b : OV) (k : Int) (Q m c : Nat) (u : Value) (v : VF) : (s40b x b k Q m c u v).heap.get 0 = some (.fam x.F) := by kernel_rfl
noncomputable def hasE (x : MX) (b : OV) (k : Int) : Bool := !allB (isntC x k b.P) b.n
theorem where_cases {x : MX} {k : Int} {P n : Nat} : (whereI (isntC x k P) n = -1 ∧ allB (isntC x k P) n = true) ∨ ∃ j, j < n ∧ whereI (isntC x k P) n = nI j ∧ allB (isntC x k P) n = false := by
  cases h : allB (isntC x k P) n with
  | true => exact .inl ⟨whereI_all (fun j hj => allB_at h j hj), rfl⟩
  | false =>
    refine .inr ?_
    have hw := whereI_ge (e := isntC x k P) (n := n)
    rw [h] at hw
    unfold whereI at hw ⊢
    split at hw
    · rename_i hl
      exact ⟨_, hl, by rw [if_pos hl], rfl⟩
    · cases hw
theorem rd40 {x : MX} {b : OV} {k : Int} {Q m c : Nat} (hO : capOk x b.P b.n) : RdB Try.prog x.F b.l 26 40 (a40 k Q m c) (.bool (hasE x b k)) := by
  cases hf : Try.prog.funcs[40]? with
  | none => have := fn40; rw [hf] at this; cases this
  | some fn =>
  have hfn := fn40
  rw [hf] at hfn
  simp only [Option.map_some, Option.some.injEq, Prod.mk.injEq] at hfn
  obtain ⟨q1, q2, q3⟩ := hfn
  refine RdB.ofG hf q1 q2 rfl ?_
  rw [q3]
  show StepG Try.prog none (z40 x b k Q m c) b40 (z40 x b k Q m c) fun e s' => leaves? e = true ∧ s'.defers = [] ∧ ResV Try.prog [.tmp 3] (.bool (hasE x b k)) s'
  have hO' := hO
  obtain ⟨p1, p2, p3⟩ := hO'
  unfold hasE
  rcases where_cases (x := x) (k := k) (P := b.P) (n := b.n) with ⟨hw, he⟩ | ⟨j, hj, hw, he⟩
  · rw [he]
    refine (StepG.ranV (s0 := z40 x b k Q m c) (rd := none) pg (KC1_ok x (-1)) (k40N x b k Q m c) ⟨trivial, rfl, hO, hw⟩ (show 2 ≤ 2 by decide)).mono ?_
    rintro e s ⟨rfl, h1, h2⟩
    exact ⟨rfl, h1, h2⟩
  · rw [he]
    obtain ⟨b1, b2⟩ := p3 j hj
    have e3 := ix3_eq j
    rcases Nat.eq_zero_or_pos (x.CM b.P j) with hm | hm
    · refine StepW.all fun ρ0 W0 _ => ?_
      have hd := VS40_dead vU_dead
      rw [e40_eq]
      refine StepW.seq (((StepG.stdT (s0 := z40 x b k Q m c) (rd := none) pg KN_ok (k40s x b k Q m c) trivial (show 2 ≤ 2 by decide) (tm40s_dead (b := b) hd lvS40) (h40_ok x b k Q m c) rfl (ok40s x x b k Q m c vU)).at ρ0 W0).mono ?_)
      rintro e s ⟨rfl, rfl⟩
      refine .inl ⟨rfl, StepW.seq (StepW.region ?_)⟩
      rw [o40_eq]
      refine StepO.run pg KN_ok (k40a x b k Q m c _) trivial (show 2 ≤ 3 by decide) (tm40a_dead (b := b) (VA40_dead hd) lvA40) (h40_ok x b k Q m c) rfl (ok40a x x b k Q m c _) ?_
      refine StepO.call' (F := x.F) (g := 23) (vs := [b.v, .int .u8 k]) (f := .func 23) (args := #[.tmp 7, .tmp 9]) (dst := some 10) pg (by kernel_rfl) trivial rfl rfl fn23 rfl (g40a0 x b k Q m c _) rfl (cap0 hO hj hw hm) ?_
      rintro F' v hf ⟨rfl, rfl⟩
      refine ⟨s40b x b k Q m c (.tuple #[PB_ 0 0 0, .bool true]) (VA40 (VS40 vU)), ⟨rfl, rfl, rfl, rfl, rfl, (set40 b k Q m c _ _).symm, g40b0 x b k Q m c _ _, fun _ _ => rfl⟩, ?_⟩
      refine StepO.run pg KN_ok (k40e x b k Q m c _) trivial (show 2 ≤ 3 by decide) (tm40e_dead (b := b) (VE40_dead (VA40_dead hd)) lvE40) (h40_ok x b k Q m c) rfl (ok40e x x b k Q m c _) ?_
      refine StepO.nil (.inl ⟨rfl, ?_⟩)
      refine ((StepG.ranV (s0 := z40 x b k Q m c) (rd := none) pg KN_ok (k40f x b k Q m c _) trivial (show 2 ≤ 3 by decide)).at ρ0 W0).mono ?_
      rintro e s ⟨rfl, h1, h2⟩
      exact ⟨rfl, h1, h2⟩
    · refine (StepG.ranV (s0 := z40 x b k Q m c) (rd := none) pg (KC1_ok x (nI j)) (k40S x b k Q m c j) ⟨⟨⟨⟨⟨⟨trivial, rfl, hO, hw⟩, by unfold nI; omega⟩, by omega⟩, by rw [e3]; exact .inl hm⟩, by rw [e3]; exact decide_eq_false (by omega)⟩, by rw [e3]; unfold mostBytes; exact ⟨.inr (by omega), Nat.le_refl _, by omega, by omega⟩⟩ (show 2 ≤ 2 by decide)).mono ?_
      rintro e s ⟨rfl, h1, h2⟩
      exact ⟨rfl, h1, h2⟩
theorem two_hsF {s : St} {ρ : Nat → PB} {w : World} {F : Nat → Nat → Cells} {l : List Value} {t : TypeId} {bx : Nat} (hs : Hs s ρ w) (h0 : s.heap.get 0 = some (.fam F)) (hb : s.heap.get bx = some (.cells (.lit l) t)) (hl : l.all farV = true) (orc : List (Option Bool)) :
    Hs (smSt 2 (H2 F l t) orc) (fun b => if b = 0 then ρ 0 else ρ bx) w := by
  obtain ⟨d0, f1, f3⟩ := hs.ob 0 _ h0
  obtain ⟨d1, pc, tt, fr, k1, k2, k3, k4⟩ := hs.ob bx _ hb
  refine ⟨⟨fun b o hb => ?_, fun b b' o o' hb hb' hk _ => ?_, fun b b' o o' B hb hB hb' hk => ?_⟩, fun _ _ => rfl, ⟨Nat.le_refl _, fun x hx => by simp [smSt] at hx⟩⟩
  · rcases two_get hb with ⟨rfl, rfl⟩ | ⟨rfl, rfl⟩
    · refine ⟨two_dm (by omega), fun h => absurd (show 2 ≤ 0 from h) (by omega), fun g P i v hv => ?_⟩
      obtain ⟨pc, t, fr, v', k1, k2, k3, k4⟩ := f3 g P i v hv
      exact ⟨pc, t, fr, v', k1, k2, famV_vr k3 k4 (two_dm (by omega)), k4⟩
    · refine ⟨two_dm (by omega), pc, tt, fr, k1, k2, fun h => absurd (show 2 ≤ 1 from h) (by omega), fun i v hv => ?_⟩
      obtain ⟨v', e1, e2⟩ := k4 i v hv
      exact ⟨_, e1, farV_vr e2 (List.all_eq_true.1 hl v (List.mem_of_getElem? hv)) (two_dm (by omega))⟩
  · have := two_lt hb; have := two_lt hb'
    exact absurd (show 2 ≤ b ∨ 2 ≤ b' from hk) (by omega)
  · have := two_lt hb'
    exact absurd (show 2 ≤ b' from hk) (by omega)
noncomputable def T40 (x : MX) (b : OV) (f : FuncId) (args : List Value) (s : St) : Option (Value × Prop) := if f == 40 then (match args with
  | [.agg z0, .pointer (some ⟨bx, 0, none⟩)] => (cvOf z0).bind fun u => (match s.heap.get bx with
    | some (.cells (.lit l) 26) => (match s.heap.get 0 with
      | some (.fam G) => some (.bool (hasE x b u.1), G = x.F ∧ capOk x b.P b.n ∧ l = b.l)
      | _ => none)
    | _ => none)
  | _ => none) else none
theorem T40_ok (x : MX) (b : OV) (f : FuncId) (args : List Value) (s : St) (r : Value × Prop) (h : T40 x b f args s = some r) : flat r.1 = true ∧ (r.2 → ∀ (ρ : Nat → PB) (w : World) (args' : List Value), Hs s ρ w → VL (Dm s) ρ args args' → Calls Try.prog f args'.toArray w fun e w' => e = .returned r.1 ∧ Go.RowKit.Below w.heap.size w w') := by
  unfold T40 at h
  split at h
  rotate_left
  · cases h
  rename_i hf
  have hf' : f = 40 := by simpa using hf
  subst hf'
  split at h
  rotate_left
  · cases h
  rename_i z0 bx
  rw [Option.bind_eq_some_iff] at h
  obtain ⟨u, hu, h⟩ := h
  split at h
  rotate_left
  · cases h
  rename_i l hb
  split at h
  rotate_left
  · cases h
  rename_i G h0
  cases h
  refine ⟨rfl, fun ⟨e, hp, hl⟩ ρ W args' hs hv => ?_⟩
  cases (show G = x.F from e)
  cases (show l = b.l from hl)
  rw [cvOf_eq hu] at hv
  refine rd40 (Q := u.2.1) (m := u.2.2.1) (c := u.2.2.2) hp _ W args' (two_hsF hs h0 hb rfl []) ?_
  obtain ⟨u1, r1, rfl, g1, hv⟩ := hv.inv_cons
  obtain ⟨u2, r2, rfl, g2, hv⟩ := hv.inv_cons
  cases hv.inv_nil
  refine VL.cons (farV_vr g1 rfl (two_dm (by omega))) (VL.cons ?_ VL.nil)
  cases g2 with
  | same h => simp [flat0] at h
  | ptr _ => exact .ptr (b := 1) (two_dm (by omega))
noncomputable def K40 (x : MX) (b : OV) : Given := { Given.readsP Given.nothing (T40 x b) with fits := true }
theorem K40_ok (x : MX) (b : OV) : GivenOk Try.prog (K40 x b) := frames_fits ((GivenOk.nothing _).readsP (T40_ok x b)) true
end
end ob
end Go.Proofs.Ytpfmilkddapfiaa
