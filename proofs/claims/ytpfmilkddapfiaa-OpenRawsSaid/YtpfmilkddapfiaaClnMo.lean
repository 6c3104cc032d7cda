/- Read off the code by the clean reading. -/
import Derived.Test.YtpfmilkddapfiaaClnMn
import Derived.Test.YtpfmilkddapfiaaClnMe
set_option linter.unusedVariables false
set_option linter.unusedSimpArgs false
set_option linter.deprecated false
set_option maxRecDepth 100000
namespace Go.Proofs.Ytpfmilkddapfiaa
open Go.ChangeShapes Go.WideShapes Go.ChangeAt Go.RowKit Go.Cln
namespace ob
set_option linter.unusedVariables false
noncomputable section
noncomputable def rw13 (x : MX) (args : List Value) : Option (Value × Prop) := match args with
  | [.agg z0] => (ovOf z0).bind fun u => some (.int .i64 (check13 x u), capOk x u.P u.n ∧ ∀ i, i < u.n → 0 ≤ x.CK u.P i ∧ x.CK u.P i ≤ 255)
  | _ => none
theorem rw13_ok (x : MX) {args : List Value} {r : Value × Prop} (h : rw13 x args = some r) : flat r.1 = true ∧ args.all farV = true ∧ (r.2 → Rd Try.prog x.F 13 args r.1) := by
  unfold rw13 at h
  split at h
  · rename_i z0
    rw [Option.bind_eq_some_iff] at h
    obtain ⟨u, hu, h⟩ := h
    cases h
    rw [ovOf_v hu]
    exact ⟨rfl, rfl, fun hp => rd13 hp.1 hp.2⟩
  · cases h
noncomputable def TRW (x : MX) (f : FuncId) (args : List Value) : Option (Value × Prop) := if f == 13 then rw13 x args else if f == 15 then rw15 x args else TE x f args
theorem TRW_ok (x : MX) (f : FuncId) (args : List Value) (r : Value × Prop) (h : TRW x f args = some r) : flat r.1 = true ∧ args.all farV = true ∧ (r.2 → Rd Try.prog x.F f args r.1) := by
  unfold TRW at h
  by_cases e13 : (f == 13) = true
  · have hf : f = 13 := by simpa using e13
    subst hf
    exact rw13_ok x h
  rw [if_neg e13] at h
  by_cases e15 : (f == 15) = true
  · have hf : f = 15 := by simpa using e15
    subst hf
    exact rw15_ok x h
  rw [if_neg e15] at h
  exact TE_ok x f args r h
noncomputable def KRW (x : MX) : Given := { Given.rds Given.nothing x.F (TRW x) with fits := true }
theorem KRW_ok (x : MX) : GivenOk Try.prog (KRW x) := frames_fits ((GivenOk.nothing _).rds (TRW_ok x)) true
def b3 : Code := ((Try.prog.funcs[3]?).bind (·.body)).getD .skip
theorem fn3 : (Try.prog.funcs[3]?).map (fun f => (f.body, f.results.toList, f.ntmps)) = some (some b3, [.tmp 2], 59) := by kernel_rfl
def e3 : Code := sndC (sndC b3)
def o3 : Array Oper := opsC (fstC e3)
def f3 : Code := sndC e3
def p3 : Array Oper := opsC (fstC f3)
def x3 : Code := sndC f3
def w3c : Code := sndC (sndC (sndC x3))
def q3 : Array Oper := opsC (fstC w3c)
def v3 : Code := sndC w3c
theorem e3_eq : e3 = .seq (.region 3 o3 false) f3 := by kernel_rfl
theorem f3_eq : f3 = .seq (.region 4 p3 false) x3 := by kernel_rfl
theorem w3_eq : w3c = .seq (.region 10 q3 true) v3 := by kernel_rfl
theorem o3_eq : List.range o3.size = [0] ++ (1 :: ([2, 3] ++ [])) := by kernel_rfl
theorem p3_eq : List.range p3.size = [0] ++ (1 :: ([2, 3, 4, 5, 6] ++ [])) := by kernel_rfl
noncomputable def z3 (x : MX) (a : OV) : St := { smSt 1 [some (.fam x.F)] [] with tmps := [a.v] ++ List.replicate 58 undef, defers := [] }
noncomputable def go3 (K : Given) (c : Code) (s : St) (o : List (Option Bool)) : Option (Exit × St) := (mk Try.prog K 300).code 3 none c { s with obl := True, orc := o }
noncomputable def gd3 (K : Given) (l : List Nat) (c : Code) (s : St) (o : List (Option Bool)) : Option (St × Code) := down (mk Try.prog K 300) 3 none l c { s with obl := True, orc := o }
noncomputable def rs3 (K : Given) (ops : Array Oper) (l : List Nat) (s : St) (o : List (Option Bool)) : Option St := runSeq Try.prog K (mk Try.prog K 200) ops l { s with obl := True, orc := o }
theorem all3 : allGo .any q3 q3.size (Array.replicate q3.size false) = [[0, 1, 2, 3, 4, 5, 6, 7, 8, 9, 10, 11, 12, 13, 14], [0, 2, 1, 3, 4, 5, 6, 7, 8, 9, 10, 11, 12, 13, 14], [0, 2, 3, 1, 4, 5, 6, 7, 8, 9, 10, 11, 12, 13, 14], [0, 2, 3, 4, 1, 5, 6, 7, 8, 9, 10, 11, 12, 13, 14], [2, 0, 1, 3, 4, 5, 6, 7, 8, 9, 10, 11, 12, 13, 14], [2, 0, 3, 1, 4, 5, 6, 7, 8, 9, 10, 11, 12, 13, 14], [2, 0, 3, 4, 1, 5, 6, 7, 8, 9, 10, 11, 12, 13, 14], [2, 3, 0, 1, 4, 5, 6, 7, 8, 9, 10, 11, 12, 13, 14], [2, 3, 0, 4, 1, 5, 6, 7, 8, 9, 10, 11, 12, 13, 14], [2, 3, 4, 0, 1, 5, 6, 7, 8, 9, 10, 11, 12, 13, 14]] := by decide +kernel
noncomputable def tm3p (v : VF) (a : OV) : List Value := (a.v :: .pointer (some ⟨1, 0, none⟩) :: vs v 2 57 [])
theorem tm3p_dead {v : VF} {a : OV} {B : Nat → Bool} (h : ∀ i, DeadV (v i)) (hB : ∀ i, ((Nat.ble 0 i && Nat.ble i 1)) = true → B i = true) : deadT B 0 (tm3p v a) :=
  dl (hB 0 rfl) (dl (hB 1 rfl) (deadT_vs h 57 (trivial)))
noncomputable def tm3q (v : VF) (a : OV) : List Value := (a.v :: .pointer (some ⟨1, 0, none⟩) :: vs v 2 9 (a.v :: vs v 12 47 []))
theorem tm3q_dead {v : VF} {a : OV} {B : Nat → Bool} (h : ∀ i, DeadV (v i)) (hB : ∀ i, ((Nat.ble 0 i && Nat.ble i 1) || Nat.beq i 11) = true → B i = true) : deadT B 0 (tm3q v a) :=
  dl (hB 0 rfl) (dl (hB 1 rfl) (deadT_vs h 9 (dl (hB 11 rfl) (deadT_vs h 47 (trivial)))))
noncomputable def tm3r (v : VF) (a : OV) (u : Value) : List Value := (a.v :: .pointer (some ⟨1, 0, none⟩) :: vs v 2 9 (a.v :: u :: vs v 13 46 []))
noncomputable def tm3s (v : VF) (a : OV) : List Value := (a.v :: .pointer (some ⟨1, 0, none⟩) :: v 2 :: .pointer (some ⟨2, 0, none⟩) :: vs v 4 55 [])
theorem tm3s_dead {v : VF} {a : OV} {B : Nat → Bool} (h : ∀ i, DeadV (v i)) (hB : ∀ i, ((Nat.ble 0 i && Nat.ble i 1) || Nat.beq i 3) = true → B i = true) : deadT B 0 (tm3s v a) :=
  dl (hB 0 rfl) (dl (hB 1 rfl) (dn (h 2) (dl (hB 3 rfl) (deadT_vs h 55 (trivial)))))
noncomputable def tm3t (v : VF) (a : OV) (u : Value) : List Value := (a.v :: .pointer (some ⟨1, 0, none⟩) :: v 2 :: .pointer (some ⟨2, 0, none⟩) :: vs v 4 10 (u :: vs v 15 44 []))
theorem tm3t_dead {v : VF} {a : OV} {u : Value} {B : Nat → Bool} (h : ∀ i, DeadV (v i)) (hB : ∀ i, ((Nat.ble 0 i && Nat.ble i 1) || Nat.beq i 3 || Nat.beq i 14) = true → B i = true) : deadT B 0 (tm3t v a u) :=
  dl (hB 0 rfl) (dl (hB 1 rfl) (dn (h 2) (dl (hB 3 rfl) (deadT_vs h 10 (dl (hB 14 rfl) (deadT_vs h 44 (trivial)))))))
noncomputable def tm3u (v : VF) (a : OV) (u w : Value) : List Value := (a.v :: .pointer (some ⟨1, 0, none⟩) :: v 2 :: .pointer (some ⟨2, 0, none⟩) :: vs v 4 10 (u :: w :: vs v 16 43 []))
noncomputable def tm3w (v : VF) (a : OV) (g : Value) (n : Int) : List Value := (a.v :: .pointer (some ⟨1, 0, none⟩) :: v 2 :: .pointer (some ⟨2, 0, none⟩) :: g :: .int .i64 n :: vs v 6 53 [])
theorem tm3w_dead {v : VF} {a : OV} {g : Value} {n : Int} {B : Nat → Bool} (h : ∀ i, DeadV (v i)) (hB : ∀ i, ((Nat.ble 0 i && Nat.ble i 1) || (Nat.ble 3 i && Nat.ble i 5)) = true → B i = true) : deadT B 0 (tm3w v a g n) :=
  dl (hB 0 rfl) (dl (hB 1 rfl) (dn (h 2) (dl (hB 3 rfl) (dl (hB 4 rfl) (dl (hB 5 rfl) (deadT_vs h 53 (trivial)))))))
noncomputable def tm3A0 (v : VF) (a : OV) (g : Value) : List Value := (a.v :: .pointer (some ⟨1, 0, none⟩) :: v 2 :: .pointer (some ⟨2, 0, none⟩) :: g :: .int .i64 0 :: vs v 6 41 (a.v :: vs v 48 11 []))
theorem tm3A0_dead {v : VF} {a : OV} {g : Value} {B : Nat → Bool} (h : ∀ i, DeadV (v i)) (hB : ∀ i, ((Nat.ble 0 i && Nat.ble i 1) || (Nat.ble 3 i && Nat.ble i 5) || Nat.beq i 47) = true → B i = true) : deadT B 0 (tm3A0 v a g) :=
  dl (hB 0 rfl) (dl (hB 1 rfl) (dn (h 2) (dl (hB 3 rfl) (dl (hB 4 rfl) (dl (hB 5 rfl) (deadT_vs h 41 (dl (hB 47 rfl) (deadT_vs h 11 (trivial)))))))))
noncomputable def tm3A1 (v : VF) (a : OV) (g : Value) : List Value := (a.v :: .pointer (some ⟨1, 0, none⟩) :: v 2 :: .pointer (some ⟨2, 0, none⟩) :: g :: .int .i64 0 :: vs v 6 39 (g :: v 46 :: a.v :: vs v 48 11 []))
theorem tm3A1_dead {v : VF} {a : OV} {g : Value} {B : Nat → Bool} (h : ∀ i, DeadV (v i)) (hB : ∀ i, ((Nat.ble 0 i && Nat.ble i 1) || (Nat.ble 3 i && Nat.ble i 5) || Nat.beq i 45 || Nat.beq i 47) = true → B i = true) : deadT B 0 (tm3A1 v a g) :=
  dl (hB 0 rfl) (dl (hB 1 rfl) (dn (h 2) (dl (hB 3 rfl) (dl (hB 4 rfl) (dl (hB 5 rfl) (deadT_vs h 39 (dl (hB 45 rfl) (dn (h 46) (dl (hB 47 rfl) (deadT_vs h 11 (trivial)))))))))))
noncomputable def tm3A2 (v : VF) (a : OV) (g k : Value) : List Value := (a.v :: .pointer (some ⟨1, 0, none⟩) :: v 2 :: .pointer (some ⟨2, 0, none⟩) :: g :: .int .i64 0 :: vs v 6 40 (k :: a.v :: vs v 48 11 []))
theorem tm3A2_dead {v : VF} {a : OV} {g k : Value} {B : Nat → Bool} (h : ∀ i, DeadV (v i)) (hB : ∀ i, ((Nat.ble 0 i && Nat.ble i 1) || (Nat.ble 3 i && Nat.ble i 5) || (Nat.ble 46 i && Nat.ble i 47)) = true → B i = true) : deadT B 0 (tm3A2 v a g k) :=
  dl (hB 0 rfl) (dl (hB 1 rfl) (dn (h 2) (dl (hB 3 rfl) (dl (hB 4 rfl) (dl (hB 5 rfl) (deadT_vs h 40 (dl (hB 46 rfl) (dl (hB 47 rfl) (deadT_vs h 11 (trivial))))))))))
noncomputable def tm3B0 (v : VF) (a : OV) (g w : Value) : List Value := (a.v :: .pointer (some ⟨1, 0, none⟩) :: v 2 :: .pointer (some ⟨2, 0, none⟩) :: g :: .int .i64 0 :: vs v 6 41 (a.v :: w :: vs v 49 10 []))
noncomputable def tm3B1 (v : VF) (a : OV) (g w : Value) : List Value := (a.v :: .pointer (some ⟨1, 0, none⟩) :: v 2 :: .pointer (some ⟨2, 0, none⟩) :: g :: .int .i64 0 :: vs v 6 39 (g :: v 46 :: a.v :: w :: vs v 49 10 []))
noncomputable def tm3B2 (v : VF) (a : OV) (g k w : Value) : List Value := (a.v :: .pointer (some ⟨1, 0, none⟩) :: v 2 :: .pointer (some ⟨2, 0, none⟩) :: g :: .int .i64 0 :: vs v 6 40 (k :: a.v :: w :: vs v 49 10 []))
noncomputable def tm3e (v : VF) (a : OV) (g : Bool) : List Value := (a.v :: .pointer (some ⟨1, 0, none⟩) :: .bool g :: vs v 3 56 [])
theorem tm3e_dead {v : VF} {a : OV} {g : Bool} {B : Nat → Bool} (h : ∀ i, DeadV (v i)) (hB : ∀ i, ((Nat.ble 0 i && Nat.ble i 2)) = true → B i = true) : deadT B 0 (tm3e v a g) :=
  dl (hB 0 rfl) (dl (hB 1 rfl) (dl (hB 2 rfl) (deadT_vs h 56 (trivial))))
def WP3 (i : Nat) : Bool := Nat.beq i 2 || (Nat.ble 8 i && Nat.ble i 9)
noncomputable def VP3 (v : VF) : VF := fun i => match Nat.beq i 7 with
  | true => .agg #[junk, junk, junk, junk]
  | false => match WP3 i with
  | true => junk
  | false => v i
def BP3 (i : Nat) : Bool := ((Nat.ble 0 i && Nat.ble i 1)) || WP3 i || Nat.beq i 7
theorem VP3_dead {v : VF} (h : ∀ i, DeadV (v i)) (i : Nat) : DeadV (VP3 v i) := by
  unfold VP3
  split
  · exact ⟨rfl, fun _ => rfl, fun _ => rfl⟩
  split
  · exact DeadV.junk
  · exact h i
theorem lvP3 (i : Nat) (h : ((Nat.ble 0 i && Nat.ble i 1)) = true) : BP3 i = true := jl (jl h)
def WQ3 (i : Nat) : Bool := false
noncomputable def VQ3 (v : VF) : VF := fun i => match WQ3 i with
  | true => junk
  | false => v i
def BQ3 (i : Nat) : Bool := ((Nat.ble 0 i && Nat.ble i 1) || Nat.beq i 11) || WQ3 i
theorem VQ3_dead {v : VF} (h : ∀ i, DeadV (v i)) (i : Nat) : DeadV (VQ3 v i) := jD (W := WQ3) h i
theorem lvQ3 (i : Nat) (h : ((Nat.ble 0 i && Nat.ble i 1) || Nat.beq i 11) = true) : BQ3 i = true := jl h
def WS3 (i : Nat) : Bool := false
noncomputable def VS3 (v : VF) : VF := fun i => match Nat.beq i 11 with
  | true => .agg #[junk, junk, junk, junk]
  | false => match Nat.beq i 12 with
  | true => .agg #[junk, junk, junk, junk]
  | false => match WS3 i with
  | true => junk
  | false => v i
def BS3 (i : Nat) : Bool := ((Nat.ble 0 i && Nat.ble i 1) || Nat.beq i 3) || WS3 i || Nat.beq i 11 || Nat.beq i 12
theorem VS3_dead {v : VF} (h : ∀ i, DeadV (v i)) (i : Nat) : DeadV (VS3 v i) := by
  unfold VS3
  split
  · exact ⟨rfl, fun _ => rfl, fun _ => rfl⟩
  split
  · exact ⟨rfl, fun _ => rfl, fun _ => rfl⟩
  split
  · exact DeadV.junk
  · exact h i
theorem lvS3 (i : Nat) (h : ((Nat.ble 0 i && Nat.ble i 1) || Nat.beq i 3) = true) : BS3 i = true := jl (jl (jl h))
def WT3 (i : Nat) : Bool := false
noncomputable def VT3 (v : VF) : VF := fun i => match WT3 i with
  | true => junk
  | false => v i
def BT3 (i : Nat) : Bool := ((Nat.ble 0 i && Nat.ble i 1) || Nat.beq i 3 || Nat.beq i 14) || WT3 i
theorem VT3_dead {v : VF} (h : ∀ i, DeadV (v i)) (i : Nat) : DeadV (VT3 v i) := jD (W := WT3) h i
theorem lvT3 (i : Nat) (h : ((Nat.ble 0 i && Nat.ble i 1) || Nat.beq i 3 || Nat.beq i 14) = true) : BT3 i = true := jl h
def WU3 (i : Nat) : Bool := (Nat.ble 16 i && Nat.ble i 17)
noncomputable def VU3 (v : VF) : VF := fun i => match Nat.beq i 14 with
  | true => .agg #[junk, junk, junk, junk]
  | false => match Nat.beq i 13 with
  | true => .tuple #[junk, junk]
  | false => match Nat.beq i 15 with
  | true => .tuple #[junk, junk]
  | false => match WU3 i with
  | true => junk
  | false => v i
def BU3 (i : Nat) : Bool := ((Nat.ble 0 i && Nat.ble i 1) || (Nat.ble 3 i && Nat.ble i 5)) || WU3 i || Nat.beq i 14 || Nat.beq i 13 || Nat.beq i 15
theorem VU3_dead {v : VF} (h : ∀ i, DeadV (v i)) (i : Nat) : DeadV (VU3 v i) := by
  unfold VU3
  split
  · exact ⟨rfl, fun _ => rfl, fun _ => rfl⟩
  split
  · exact ⟨rfl, fun _ => rfl, fun _ => rfl⟩
  split
  · exact ⟨rfl, fun _ => rfl, fun _ => rfl⟩
  split
  · exact DeadV.junk
  · exact h i
theorem lvU3 (i : Nat) (h : ((Nat.ble 0 i && Nat.ble i 1) || (Nat.ble 3 i && Nat.ble i 5)) = true) : BU3 i = true := jl (jl (jl (jl h)))
def WW3 (i : Nat) : Bool := Nat.beq i 6 || Nat.beq i 19 || (Nat.ble 21 i && Nat.ble i 25) || (Nat.ble 28 i && Nat.ble i 32)
noncomputable def VW3 (v : VF) : VF := fun i => match Nat.beq i 18 with
  | true => .agg #[junk, junk, junk, junk]
  | false => match Nat.beq i 20 with
  | true => .agg #[junk, junk, junk, junk]
  | false => match Nat.beq i 26 with
  | true => .agg #[junk, junk, junk, junk]
  | false => match Nat.beq i 27 with
  | true => .agg #[junk, junk, junk, junk]
  | false => match WW3 i with
  | true => junk
  | false => v i
def BW3 (i : Nat) : Bool := ((Nat.ble 0 i && Nat.ble i 1) || (Nat.ble 3 i && Nat.ble i 5)) || WW3 i || Nat.beq i 18 || Nat.beq i 20 || Nat.beq i 26 || Nat.beq i 27
theorem VW3_dead {v : VF} (h : ∀ i, DeadV (v i)) (i : Nat) : DeadV (VW3 v i) := by
  unfold VW3
  split
  · exact ⟨rfl, fun _ => rfl, fun _ => rfl⟩
  split
  · exact ⟨rfl, fun _ => rfl, fun _ => rfl⟩
  split
  · exact ⟨rfl, fun _ => rfl, fun _ => rfl⟩
  split
  · exact ⟨rfl, fun _ => rfl, fun _ => rfl⟩
  split
  · exact DeadV.junk
  · exact h i
theorem lvW3 (i : Nat) (h : ((Nat.ble 0 i && Nat.ble i 1) || (Nat.ble 3 i && Nat.ble i 5)) = true) : BW3 i = true := jl (jl (jl (jl (jl h))))
def WN03 (i : Nat) : Bool := false
noncomputable def VN03 (v : VF) : VF := fun i => match WN03 i with
  | true => junk
  | false => v i
def BN03 (i : Nat) : Bool := ((Nat.ble 0 i && Nat.ble i 1) || (Nat.ble 3 i && Nat.ble i 5) || Nat.beq i 47) || WN03 i
theorem VN03_dead {v : VF} (h : ∀ i, DeadV (v i)) (i : Nat) : DeadV (VN03 v i) := jD (W := WN03) h i
theorem lvN03 (i : Nat) (h : ((Nat.ble 0 i && Nat.ble i 1) || (Nat.ble 3 i && Nat.ble i 5) || Nat.beq i 47) = true) : BN03 i = true := jl h
def WN13 (i : Nat) : Bool := false
noncomputable def VN13 (v : VF) : VF := fun i => match WN13 i with
  | true => junk
  | false => v i
def BN13 (i : Nat) : Bool := ((Nat.ble 0 i && Nat.ble i 1) || (Nat.ble 3 i && Nat.ble i 5) || Nat.beq i 45 || Nat.beq i 47) || WN13 i
theorem VN13_dead {v : VF} (h : ∀ i, DeadV (v i)) (i : Nat) : DeadV (VN13 v i) := jD (W := WN13) h i
theorem lvN13 (i : Nat) (h : ((Nat.ble 0 i && Nat.ble i 1) || (Nat.ble 3 i && Nat.ble i 5) || Nat.beq i 45 || Nat.beq i 47) = true) : BN13 i = true := jl h
def WN23 (i : Nat) : Bool := Nat.beq i 45
noncomputable def VN23 (v : VF) : VF := fun i => match WN23 i with
  | true => junk
  | false => v i
def BN23 (i : Nat) : Bool := ((Nat.ble 0 i && Nat.ble i 1) || (Nat.ble 3 i && Nat.ble i 5) || (Nat.ble 46 i && Nat.ble i 47)) || WN23 i
theorem VN23_dead {v : VF} (h : ∀ i, DeadV (v i)) (i : Nat) : DeadV (VN23 v i) := jD (W := WN23) h i
theorem lvN23 (i : Nat) (h : ((Nat.ble 0 i && Nat.ble i 1) || (Nat.ble 3 i && Nat.ble i 5) || (Nat.ble 46 i && Nat.ble i 47)) = true) : BN23 i = true := jl h
def WE3 (i : Nat) : Bool := (Nat.ble 3 i && Nat.ble i 5) || (Nat.ble 45 i && Nat.ble i 46) || (Nat.ble 48 i && Nat.ble i 58)
noncomputable def VE3 (v : VF) : VF := fun i => match Nat.beq i 47 with
  | true => .agg #[junk, junk, junk, junk]
  | false => match WE3 i with
  | true => junk
  | false => v i
def BE3 (i : Nat) : Bool := ((Nat.ble 0 i && Nat.ble i 2)) || WE3 i || Nat.beq i 47
theorem VE3_dead {v : VF} (h : ∀ i, DeadV (v i)) (i : Nat) : DeadV (VE3 v i) := by
  unfold VE3
  split
  · exact ⟨rfl, fun _ => rfl, fun _ => rfl⟩
  split
  · exact DeadV.junk
  · exact h i
theorem lvE3 (i : Nat) (h : ((Nat.ble 0 i && Nat.ble i 2)) = true) : BE3 i = true := jl (jl h)
def WF3 (i : Nat) : Bool := (Nat.ble 3 i && Nat.ble i 5) || Nat.beq i 46 || (Nat.ble 48 i && Nat.ble i 58)
noncomputable def VF3 (v : VF) : VF := fun i => match Nat.beq i 47 with
  | true => .agg #[junk, junk, junk, junk]
  | false => match WF3 i with
  | true => junk
  | false => v i
def BF3 (i : Nat) : Bool := ((Nat.ble 0 i && Nat.ble i 2)) || WF3 i || Nat.beq i 47
theorem VF3_dead {v : VF} (h : ∀ i, DeadV (v i)) (i : Nat) : DeadV (VF3 v i) := by
  unfold VF3
  split
  · exact ⟨rfl, fun _ => rfl, fun _ => rfl⟩
  split
  · exact DeadV.junk
  · exact h i
theorem lvF3 (i : Nat) (h : ((Nat.ble 0 i && Nat.ble i 2)) = true) : BF3 i = true := jl (jl h)
noncomputable def h3s (x : MX) (a d : OV) : Nat → Option Ob := fun j => match j with
  | 0 => some (.fam x.F)
  | 1 => some (.cells (.lit a.l) 26)
  | 2 => some (.cells (.lit d.l) 26)
  | _ => none
theorem h3s_ok (x : MX) (a d : OV) : Go.Cln.RowsIn (h3s x a d) := by
  intro b' n' w' g' t h
  unfold h3s at h
  split at h <;> cases h
noncomputable def s3p (x : MX) (a : OV) (v : VF) : St := ⟨tm3p v a, [], Tr.rebuild (g23 x a) 2, 2, 1, [], fun _ => false, True, []⟩
noncomputable def s3q (x : MX) (a : OV) (v : VF) : St := ⟨tm3q v a, [], Tr.rebuild (g23 x a) 2, 2, 1, [], fun _ => false, True, []⟩
noncomputable def s3r (x : MX) (a : OV) (u : Value) (v : VF) : St := ⟨tm3r v a u, [], Tr.rebuild (g23 x a) 2, 2, 1, [], fun _ => false, True, []⟩
noncomputable def s3s (x : MX) (a d : OV) (v : VF) : St := ⟨tm3s v a, [], Tr.rebuild (h3s x a d) 3, 3, 1, [], fun _ => false, True, []⟩
noncomputable def s3t (x : MX) (a d : OV) (u : Value) (v : VF) : St := ⟨tm3t v a u, [], Tr.rebuild (h3s x a d) 3, 3, 1, [], fun _ => false, True, []⟩
noncomputable def s3u (x : MX) (a d : OV) (u w : Value) (v : VF) : St := ⟨tm3u v a u w, [], Tr.rebuild (h3s x a d) 3, 3, 1, [], fun _ => false, True, []⟩
noncomputable def s3w (x : MX) (a d : OV) (g : Value) (n : Int) (v : VF) : St := ⟨tm3w v a g n, [], Tr.rebuild (h3s x a d) 3, 3, 1, [], fun _ => false, True, []⟩
noncomputable def s3A0 (x : MX) (a d : OV) (g : Value) (v : VF) : St := ⟨tm3A0 v a g, [], Tr.rebuild (h3s x a d) 3, 3, 1, [], fun _ => false, True, []⟩
noncomputable def s3B0 (x : MX) (a d : OV) (g : Value) (w : Value) (v : VF) : St := ⟨tm3B0 v a g w, [], Tr.rebuild (h3s x a d) 3, 3, 1, [], fun _ => false, True, []⟩
noncomputable def s3A1 (x : MX) (a d : OV) (g : Value) (v : VF) : St := ⟨tm3A1 v a g, [], Tr.rebuild (h3s x a d) 3, 3, 1, [], fun _ => false, True, []⟩
noncomputable def s3B1 (x : MX) (a d : OV) (g : Value) (w : Value) (v : VF) : St := ⟨tm3B1 v a g w, [], Tr.rebuild (h3s x a d) 3, 3, 1, [], fun _ => false, True, []⟩
noncomputable def s3A2 (x : MX) (a d : OV) (g : Value) (k : Value) (v : VF) : St := ⟨tm3A2 v a g k, [], Tr.rebuild (h3s x a d) 3, 3, 1, [], fun _ => false, True, []⟩
noncomputable def s3B2 (x : MX) (a d : OV) (g : Value) (k : Value) (w : Value) (v : VF) : St := ⟨tm3B2 v a g k w, [], Tr.rebuild (h3s x a d) 3, 3, 1, [], fun _ => false, True, []⟩
noncomputable def s3e (x : MX) (a d : OV) (g : Bool) (v : VF) : St := ⟨tm3e v a g, [], Tr.rebuild (h3s x a d) 3, 3, 1, [], fun _ => false, True, []⟩
theorem k3o (x : MX) (a : OV) : ((mk Try.prog (KA x) 300).call 3 [a.v] (smSt 1 [some (.fam x.F)] [some true])).map (fun r => (r.1, r.2.obl)) = some (.bool true, ((True ∧ as6 x a) ∧ (!fewE x a) = true) ∧ (x.F = x.F ∧ True)) := by kernel_rfl
theorem k3d (x : MX) (a : OV) : (gd3 (KA x) [2, 2] b3 (z3 x a) [some false]).map (fun r => (r.2, r.1.obl, seenInT BP3 r.1 (s3p x a (VP3 vU)) [0, 1])) = some (e3, (True ∧ as6 x a) ∧ (!fewE x a) = false, seenAsT BP3 (s3p x a (VP3 vU)) [0, 1] 2) := by kernel_rfl
theorem ok3d (x0 x : MX) (a : OV) (v : VF) : picOkT BP3 (z3 x0 a) (s3p x a (VP3 v)) [0, 1] = true := by kernel_rfl
theorem k3q (x : MX) (a : OV) (v : VF) : (rs3 KN o3 [0] (s3p x a v) []).map (fun r => (r.obl, seenInT BQ3 r (s3q x a (VQ3 v)) [0, 1])) = some (True, seenAsT BQ3 (s3q x a (VQ3 v)) [0, 1] 2) := by kernel_rfl
theorem ok3q (x0 x : MX) (a : OV) (v : VF) : picOkT BQ3 (z3 x0 a) (s3q x a (VQ3 v)) [0, 1] = true := by kernel_rfl
theorem k3s (x : MX) (a d : OV) (v : VF) : (rs3 KN o3 [2, 3] (s3r x a d.v v) []).map (fun r => (r.obl, seenInT BS3 r (s3s x a d (VS3 v)) [0, 1, 2])) = some (True, seenAsT BS3 (s3s x a d (VS3 v)) [0, 1, 2] 3) := by kernel_rfl
theorem ok3s (x0 x : MX) (a d : OV) (v : VF) : picOkT BS3 (z3 x0 a) (s3s x a d (VS3 v)) [0, 1, 2] = true := by kernel_rfl
theorem k3t (x : MX) (a d : OV) (v : VF) : (rs3 KN p3 [0] (s3s x a d v) []).map (fun r => (r.obl, seenInT BT3 r (s3t x a d d.v (VT3 v)) [0, 1, 2])) = some (True, seenAsT BT3 (s3t x a d d.v (VT3 v)) [0, 1, 2] 3) := by kernel_rfl
theorem ok3t (x0 x : MX) (a d : OV) (v : VF) : picOkT BT3 (z3 x0 a) (s3t x a d d.v (VT3 v)) [0, 1, 2] = true := by kernel_rfl
theorem k3uN (x : MX) (a d : OV) (v : VF) (n : Int) : (rs3 KN p3 [2, 3, 4, 5, 6] (s3u x a d d.v (.tuple #[.slice none 0 0, .int .i64 n]) v) []).map (fun r => (r.obl, seenInT BU3 r (s3w x a d (.slice none 0 0) n (VU3 v)) [0, 1, 2])) = some (True, seenAsT BU3 (s3w x a d (.slice none 0 0) n (VU3 v)) [0, 1, 2] 3) := by kernel_rfl
theorem ok3uN (x0 x : MX) (a d : OV) (n : Int) (v : VF) : picOkT BU3 (z3 x0 a) (s3w x a d (.slice none 0 0) n (VU3 v)) [0, 1, 2] = true := by kernel_rfl
theorem k3uS (x : MX) (a d : OV) (Q m c : Nat) (v : VF) : (rs3 KN p3 [2, 3, 4, 5, 6] (s3u x a d d.v (.tuple #[PB_ Q m c, .int .i64 0]) v) []).map (fun r => (r.obl, seenInT BU3 r (s3w x a d (PB_ Q m c) 0 (VU3 v)) [0, 1, 2])) = some (True, seenAsT BU3 (s3w x a d (PB_ Q m c) 0 (VU3 v)) [0, 1, 2] 3) := by kernel_rfl
theorem ok3uS (x0 x : MX) (a d : OV) (Q m c : Nat) (v : VF) : picOkT BU3 (z3 x0 a) (s3w x a d (PB_ Q m c) 0 (VU3 v)) [0, 1, 2] = true := by kernel_rfl
theorem k3E (x : MX) (a d : OV) (n : Int) (v : VF) : (go3 (KRW x) x3 (s3w x a d (.slice none 0 0) n v) [some false, none, none, none, none, some false, some true, none, none, none, none, none, some true]).bind (fun r => (results1 Try.prog r.2 [.tmp 2]).map fun q => (r.1, q.2.obl, r.2.defers, oneOf q.1)) = some (.ret, (((((((True ∧ (x.F = x.F ∧ capOk x a.P a.n ∧ ∀ i, i < a.n → 0 ≤ x.CK a.P i ∧ x.CK a.P i ≤ 255)) ∧ (x.F = x.F ∧ capOk x d.P d.n)) ∧ (check15 x d != check13 x a) = false) ∧ (x.F = x.F ∧ capOk x d.P d.n ∧ capOk x a.P a.n)) ∧ (!openE x d a) = false) ∧ (check13 x a != 0) = true) ∧ (n == check13 x a) = true) ∧ (x.F = x.F ∧ True), [], .bool true) := by kernel_rfl
theorem k3w (x : MX) (a d : OV) (Q m c : Nat) (v : VF) : (gd3 (KRW x) [2, 2, 2] x3 (s3w x a d (PB_ Q m c) 0 v) [some false, none, none, none, none, some false, some false]).map (fun r => (r.2, r.1.obl, seenInT BW3 r.1 (s3w x a d (PB_ Q m c) 0 (VW3 v)) [0, 1, 2])) = some (w3c, (((((True ∧ (x.F = x.F ∧ capOk x a.P a.n ∧ ∀ i, i < a.n → 0 ≤ x.CK a.P i ∧ x.CK a.P i ≤ 255)) ∧ (x.F = x.F ∧ capOk x d.P d.n)) ∧ (check15 x d != check13 x a) = false) ∧ (x.F = x.F ∧ capOk x d.P d.n ∧ capOk x a.P a.n)) ∧ (!openE x d a) = false) ∧ (check13 x a != 0) = false, seenAsT BW3 (s3w x a d (PB_ Q m c) 0 (VW3 v)) [0, 1, 2] 3) := by kernel_rfl
theorem ok3w (x0 x : MX) (a d : OV) (Q m c : Nat) (v : VF) : picOkT BW3 (z3 x0 a) (s3w x a d (PB_ Q m c) 0 (VW3 v)) [0, 1, 2] = true := by kernel_rfl
theorem k3A00 (x : MX) (a d : OV) (Q m c : Nat) (v : VF) : (rs3 KN q3 [2] (s3w x a d (PB_ Q m c) 0 v) []).map (fun r => (r.obl, seenInT BN03 r (s3A0 x a d (PB_ Q m c) (VN03 v)) [0, 1, 2])) = some (True, seenAsT BN03 (s3A0 x a d (PB_ Q m c) (VN03 v)) [0, 1, 2] 3) := by kernel_rfl
theorem ok3A0 (x0 x : MX) (a d : OV) (Q m c : Nat) (v : VF) : picOkT BN03 (z3 x0 a) (s3A0 x a d (PB_ Q m c) (VN03 v)) [0, 1, 2] = true := by kernel_rfl
theorem k3mA00 (x : MX) (a d : OV) (Q m c R k e : Nat) (v : VF) : (rs3 (KA x) q3 [0, 1, 4, 5, 6, 7, 8, 9, 10, 11, 12, 13, 14] (s3B0 x a d (PB_ Q m c) (PB_ R k e) v) [some true]).map (fun r => (r.obl, seenInT BE3 r (s3e x a d true (VE3 v)) [0, 1, 2])) = some (((((True ∧ (m = 0 ∨ 0 + m ≤ (x.D Q).length)) ∧ (k = 0 ∨ 0 + k ≤ (x.D R).length)) ∧ strQ (((x.D Q).drop 0).take m) (((x.D R).drop 0).take k) = true) ∧ (x.F = x.F ∧ True)), seenAsT BE3 (s3e x a d true (VE3 v)) [0, 1, 2] 3) := by kernel_rfl
theorem k3mA01 (x : MX) (a d : OV) (Q m c R k e : Nat) (v : VF) : (rs3 (KA x) q3 [0, 4, 1, 5, 6, 7, 8, 9, 10, 11, 12, 13, 14] (s3B0 x a d (PB_ Q m c) (PB_ R k e) v) [some true]).map (fun r => (r.obl, seenInT BE3 r (s3e x a d true (VE3 v)) [0, 1, 2])) = some (((((True ∧ (k = 0 ∨ 0 + k ≤ (x.D R).length)) ∧ (m = 0 ∨ 0 + m ≤ (x.D Q).length)) ∧ strQ (((x.D Q).drop 0).take m) (((x.D R).drop 0).take k) = true) ∧ (x.F = x.F ∧ True)), seenAsT BE3 (s3e x a d true (VE3 v)) [0, 1, 2] 3) := by kernel_rfl
theorem k3mA02 (x : MX) (a d : OV) (Q m c R k e : Nat) (v : VF) : (rs3 (KA x) q3 [4, 0, 1, 5, 6, 7, 8, 9, 10, 11, 12, 13, 14] (s3B0 x a d (PB_ Q m c) (PB_ R k e) v) [some true]).map (fun r => (r.obl, seenInT BE3 r (s3e x a d true (VE3 v)) [0, 1, 2])) = some (((((True ∧ (k = 0 ∨ 0 + k ≤ (x.D R).length)) ∧ (m = 0 ∨ 0 + m ≤ (x.D Q).length)) ∧ strQ (((x.D Q).drop 0).take m) (((x.D R).drop 0).take k) = true) ∧ (x.F = x.F ∧ True)), seenAsT BE3 (s3e x a d true (VE3 v)) [0, 1, 2] 3) := by kernel_rfl
theorem k3A10 (x : MX) (a d : OV) (Q m c : Nat) (v : VF) : (rs3 KN q3 [0, 2] (s3w x a d (PB_ Q m c) 0 v) []).map (fun r => (r.obl, seenInT BN13 r (s3A1 x a d (PB_ Q m c) (VN13 v)) [0, 1, 2])) = some (True, seenAsT BN13 (s3A1 x a d (PB_ Q m c) (VN13 v)) [0, 1, 2] 3) := by kernel_rfl
theorem k3A11 (x : MX) (a d : OV) (Q m c : Nat) (v : VF) : (rs3 KN q3 [2, 0] (s3w x a d (PB_ Q m c) 0 v) []).map (fun r => (r.obl, seenInT BN13 r (s3A1 x a d (PB_ Q m c) (VN13 v)) [0, 1, 2])) = some (True, seenAsT BN13 (s3A1 x a d (PB_ Q m c) (VN13 v)) [0, 1, 2] 3) := by kernel_rfl
theorem ok3A1 (x0 x : MX) (a d : OV) (Q m c : Nat) (v : VF) : picOkT BN13 (z3 x0 a) (s3A1 x a d (PB_ Q m c) (VN13 v)) [0, 1, 2] = true := by kernel_rfl
theorem k3mA10 (x : MX) (a d : OV) (Q m c R k e : Nat) (v : VF) : (rs3 (KA x) q3 [1, 4, 5, 6, 7, 8, 9, 10, 11, 12, 13, 14] (s3B1 x a d (PB_ Q m c) (PB_ R k e) v) [some true]).map (fun r => (r.obl, seenInT BE3 r (s3e x a d true (VE3 v)) [0, 1, 2])) = some (((((True ∧ (m = 0 ∨ 0 + m ≤ (x.D Q).length)) ∧ (k = 0 ∨ 0 + k ≤ (x.D R).length)) ∧ strQ (((x.D Q).drop 0).take m) (((x.D R).drop 0).take k) = true) ∧ (x.F = x.F ∧ True)), seenAsT BE3 (s3e x a d true (VE3 v)) [0, 1, 2] 3) := by kernel_rfl
theorem k3mA11 (x : MX) (a d : OV) (Q m c R k e : Nat) (v : VF) : (rs3 (KA x) q3 [4, 1, 5, 6, 7, 8, 9, 10, 11, 12, 13, 14] (s3B1 x a d (PB_ Q m c) (PB_ R k e) v) [some true]).map (fun r => (r.obl, seenInT BE3 r (s3e x a d true (VE3 v)) [0, 1, 2])) = some (((((True ∧ (k = 0 ∨ 0 + k ≤ (x.D R).length)) ∧ (m = 0 ∨ 0 + m ≤ (x.D Q).length)) ∧ strQ (((x.D Q).drop 0).take m) (((x.D R).drop 0).take k) = true) ∧ (x.F = x.F ∧ True)), seenAsT BE3 (s3e x a d true (VE3 v)) [0, 1, 2] 3) := by kernel_rfl
theorem k3A20 (x : MX) (a d : OV) (Q m c : Nat) (v : VF) : (rs3 KN q3 [0, 1, 2] (s3w x a d (PB_ Q m c) 0 v) []).map (fun r => (r.obl, seenInT BN23 r (s3A2 x a d (PB_ Q m c) (.string (bytesI (((x.D Q).drop 0).take m))) (VN23 v)) [0, 1, 2])) = some (True ∧ (m = 0 ∨ 0 + m ≤ (x.D Q).length), seenAsT BN23 (s3A2 x a d (PB_ Q m c) (.string (bytesI (((x.D Q).drop 0).take m))) (VN23 v)) [0, 1, 2] 3) := by kernel_rfl
theorem k3A21 (x : MX) (a d : OV) (Q m c : Nat) (v : VF) : (rs3 KN q3 [0, 2, 1] (s3w x a d (PB_ Q m c) 0 v) []).map (fun r => (r.obl, seenInT BN23 r (s3A2 x a d (PB_ Q m c) (.string (bytesI (((x.D Q).drop 0).take m))) (VN23 v)) [0, 1, 2])) = some (True ∧ (m = 0 ∨ 0 + m ≤ (x.D Q).length), seenAsT BN23 (s3A2 x a d (PB_ Q m c) (.string (bytesI (((x.D Q).drop 0).take m))) (VN23 v)) [0, 1, 2] 3) := by kernel_rfl
theorem k3A22 (x : MX) (a d : OV) (Q m c : Nat) (v : VF) : (rs3 KN q3 [2, 0, 1] (s3w x a d (PB_ Q m c) 0 v) []).map (fun r => (r.obl, seenInT BN23 r (s3A2 x a d (PB_ Q m c) (.string (bytesI (((x.D Q).drop 0).take m))) (VN23 v)) [0, 1, 2])) = some (True ∧ (m = 0 ∨ 0 + m ≤ (x.D Q).length), seenAsT BN23 (s3A2 x a d (PB_ Q m c) (.string (bytesI (((x.D Q).drop 0).take m))) (VN23 v)) [0, 1, 2] 3) := by kernel_rfl
theorem ok3A2 (x0 x : MX) (a d : OV) (Q m c : Nat) (v : VF) : picOkT BN23 (z3 x0 a) (s3A2 x a d (PB_ Q m c) (.string (bytesI (((x.D Q).drop 0).take m))) (VN23 v)) [0, 1, 2] = true := by kernel_rfl
theorem k3mA20 (x : MX) (a d : OV) (L : List Int) (Q m c R k e : Nat) (v : VF) : (rs3 (KA x) q3 [4, 5, 6, 7, 8, 9, 10, 11, 12, 13, 14] (s3B2 x a d (PB_ Q m c) (.string (bytesI L)) (PB_ R k e) v) [some true]).map (fun r => (r.obl, seenInT BF3 r (s3e x a d true (VF3 v)) [0, 1, 2])) = some ((((True ∧ (k = 0 ∨ 0 + k ≤ (x.D R).length)) ∧ strQ L (((x.D R).drop 0).take k) = true) ∧ (x.F = x.F ∧ True)), seenAsT BF3 (s3e x a d true (VF3 v)) [0, 1, 2] 3) := by kernel_rfl
theorem ok3f (x0 x : MX) (a d : OV) (v : VF) : picOkT BF3 (z3 x0 a) (s3e x a d true (VF3 v)) [0, 1, 2] = true := by kernel_rfl
theorem ok3e (x0 x : MX) (a d : OV) (v : VF) : picOkT BE3 (z3 x0 a) (s3e x a d true (VE3 v)) [0, 1, 2] = true := by kernel_rfl
theorem k3v (x : MX) (a d : OV) (v : VF) : (go3 KN v3 (s3e x a d true v) []).bind (fun r => (results1 Try.prog r.2 [.tmp 2]).map fun q => (r.1, q.2.obl, r.2.defers, oneOf q.1)) = some (.ret, True, [], .bool true) := by kernel_rfl
end
end ob
end Go.Proofs.Ytpfmilkddapfiaa
namespace Go.Proofs.Ytpfmilkddapfiaa
open Go.ChangeShapes Go.WideShapes Go.ChangeAt Go.RowKit Go.Cln
namespace ob
set_option linter.unusedVariables false
noncomputable section
theorem up3d (x : MX) (a : OV) (ρ0 : Nat → PB) (W0 : World) (Q_ : Exit → St → Prop) : upW Try.prog none (z3 x a) ρ0 W0 [2, 2] b3 Q_ = Q_ := by kernel_rfl
theorem up3w (x : MX) (a : OV) (ρ0 : Nat → PB) (W0 : World) (Q_ : Exit → St → Prop) : upW Try.prog none (z3 x a) ρ0 W0 [2, 2, 2] x3 Q_ = Q_ := by kernel_rfl
def Q3 : Exit → St → Prop := fun e s' => leaves? e = true ∧ s'.defers = [] ∧ ResV Try.prog [.tmp 2] (.bool true) s'
def J3 (x : MX) (a : OV) (ρ0 : Nat → PB) (W0 : World) : Exit → St → Prop := fun ex s => (ex = .normal ∧ StepW Try.prog none (z3 x a) ρ0 W0 v3 s Q3) ∨ (ex ≠ .normal ∧ Q3 ex s)
def okK3 (x : MX) (a : OV) : Prop := ∀ i, i < a.n → 0 ≤ x.CK a.P i ∧ x.CK a.P i ≤ 255
theorem okK3_keeps {x y : MX} {a : OV} (hk : Keeps x.F y.F) (hO : capOk x a.P a.n) (h : okK3 x a) : okK3 y a := fun i hi => by
  rw [(kp_cap hk hi hO.1).2.1]; exact h i hi
theorem g3q0 (x : MX) (a : OV) (v : VF) : (s3q x a v).heap.get 0 = some (.fam x.F) := by kernel_rfl
theorem g3r0 (x : MX) (a : OV) (u : Value) (v : VF) : (s3r x a u v).heap.get 0 = some (.fam x.F) := by kernel_rfl
theorem g3t0 (x : MX) (a d : OV) (u : Value) (v : VF) : (s3t x a d u v).heap.get 0 = some (.fam x.F) := by kernel_rfl
theorem g3u0 (x : MX) (a d : OV) (u w : Value) (v : VF) : (s3u x a d u w v).heap.get 0 = some (.fam x.F) := by kernel_rfl
theorem set3r (a : OV) (u : Value) (v : VF) : setL (tm3q v a) 12 u = tm3r v a u := by kernel_rfl
theorem set3u (a : OV) (u w : Value) (v : VF) : setL (tm3t v a u) 15 w = tm3u v a u w := by kernel_rfl
theorem set3B0 (a : OV) (g u : Value) (v : VF) : setL (tm3A0 v a g) 48 u = tm3B0 v a g u := by kernel_rfl
theorem set3B1 (a : OV) (g u : Value) (v : VF) : setL (tm3A1 v a g) 48 u = tm3B1 v a g u := by kernel_rfl
theorem set3B2 (a : OV) (g k u : Value) (v : VF) : setL (tm3A2 v a g k) 48 u = tm3B2 v a g k u := by kernel_rfl
theorem g3A00 (x : MX) (a d : OV) (g : Value) (v : VF) : (s3A0 x a d g v).heap.get 0 = some (.fam x.F) := by kernel_rfl
theorem g3A10 (x : MX) (a d : OV) (g : Value) (v : VF) : (s3A1 x a d g v).heap.get 0 = some (.fam x.F) := by kernel_rfl
theorem g3A20 (x : MX) (a d : OV) (g k : Value) (v : VF) : (s3A2 x a d g k v).heap.get 0 = some (.fam x.F) := by kernel_rfl
theorem g3B00 (x : MX) (a d : OV) (g u : Value) (v : VF) : (s3B0 x a d g u v).heap.get 0 = some (.fam x.F) := by kernel_rfl
theorem g3B10 (x : MX) (a d : OV) (g u : Value) (v : VF) : (s3B1 x a d g u v).heap.get 0 = some (.fam x.F) := by kernel_rfl
theorem g3B20 (x : MX) (a d : OV) (g k u : Value) (v : VF) : (s3B2 x a d g k u v).heap.get 0 = some (.fam x.F) := by kernel_rfl
theorem h3s_rest (x y : MX) (a d : OV) (j : Nat) (hj : j ≠ 0) : h3s y a d j = h3s x a d j := by
  rcases j with _ | _ | _ | j
  · exact absurd rfl hj
  · rfl
  · rfl
  · rfl
theorem fin3 {x0 x : MX} {a d : OV} {v : VF} {ρ0 : Nat → PB} {W0 : World} : StepO Try.prog none (z3 x0 a) ρ0 W0 q3 [] (s3e x a d true v) (J3 x0 a ρ0 W0) := by
  refine StepO.nil (.inl ⟨rfl, ?_⟩)
  refine ((StepG.ranV (s0 := z3 x0 a) (rd := none) pg KN_ok (k3v x a d v) trivial (show 1 ≤ 3 by decide)).at ρ0 W0).mono ?_
  rintro ex s ⟨rfl, h1, h2⟩
  exact ⟨rfl, h1, h2⟩
theorem call3_00 {x0 z : MX} {a d : OV} {P m c : Nat} {v : VF} {ρ0 : Nat → PB} {W0 : World} (hO : capOk z a.P a.n) (he : z.D P = rawR z a) (hm : m = (rawR z a).length) (h0 : 0 < m) (hv : ∀ j, DeadV (v j)) : StepO Try.prog none (z3 x0 a) ρ0 W0 q3 [3, 0, 1, 4, 5, 6, 7, 8, 9, 10, 11, 12, 13, 14] (s3A0 z a d (PB_ P m c) v) (J3 x0 a ρ0 W0) := by
  refine StepO.call' (F := z.F) (g := 17) (vs := [a.v]) (f := .func 17) (args := #[.tmp 47]) (dst := some 48) pg (by kernel_rfl) trivial rfl rfl fn17 rfl (g3A00 z a d _ _) rfl (raw17 hO) ?_
  rintro F' v' hf ⟨y, R, e, rfl, rfl, hk, hR⟩
  have hP2 : y.D P = rawR z a := by rw [kp_byt hk (by rw [he, ← hm]; exact h0)]; exact he
  have hL : ((z.D P).drop 0).take m = rawR z a := by rw [he, List.drop_zero, List.take_of_length_le (by rw [hm]; exact Nat.le_refl _)]
  have hL2 : ((y.D P).drop 0).take m = rawR z a := by rw [hP2, List.drop_zero, List.take_of_length_le (by rw [hm]; exact Nat.le_refl _)]
  have hR' : ((y.D R).drop 0).take (rawR z a).length = rawR z a := by rw [hR, List.drop_zero, List.take_of_length_le (Nat.le_refl _)]
  refine ⟨s3B0 y a d (PB_ P m c) (PB_ R (rawR z a).length e) v, ⟨rfl, rfl, rfl, rfl, rfl, (set3B0 a _ _ _).symm, g3B00 y a d _ _ _, fun j hj => getr (by decide) (h3s_rest z y a d) j hj⟩, ?_⟩
  refine StepO.run (l1 := [0, 1, 4, 5, 6, 7, 8, 9, 10, 11, 12, 13, 14]) (l2 := []) pg (KA_ok y) (k3mA00 y a d P m c R (rawR z a).length e v) ⟨⟨⟨⟨trivial, .inr (by rw [hP2, hm]; omega)⟩, .inr (by rw [hR]; omega)⟩, by rw [hL2, hR', strQ_self]⟩, rfl, trivial⟩ (show 1 ≤ 3 by decide) (tm3e_dead (VE3_dead hv) lvE3) (h3s_ok y a d) rfl (ok3e x0 y a d v) fin3
theorem call3_01 {x0 z : MX} {a d : OV} {P m c : Nat} {v : VF} {ρ0 : Nat → PB} {W0 : World} (hO : capOk z a.P a.n) (he : z.D P = rawR z a) (hm : m = (rawR z a).length) (h0 : 0 < m) (hv : ∀ j, DeadV (v j)) : StepO Try.prog none (z3 x0 a) ρ0 W0 q3 [3, 0, 4, 1, 5, 6, 7, 8, 9, 10, 11, 12, 13, 14] (s3A0 z a d (PB_ P m c) v) (J3 x0 a ρ0 W0) := by
  refine StepO.call' (F := z.F) (g := 17) (vs := [a.v]) (f := .func 17) (args := #[.tmp 47]) (dst := some 48) pg (by kernel_rfl) trivial rfl rfl fn17 rfl (g3A00 z a d _ _) rfl (raw17 hO) ?_
  rintro F' v' hf ⟨y, R, e, rfl, rfl, hk, hR⟩
  have hP2 : y.D P = rawR z a := by rw [kp_byt hk (by rw [he, ← hm]; exact h0)]; exact he
  have hL : ((z.D P).drop 0).take m = rawR z a := by rw [he, List.drop_zero, List.take_of_length_le (by rw [hm]; exact Nat.le_refl _)]
  have hL2 : ((y.D P).drop 0).take m = rawR z a := by rw [hP2, List.drop_zero, List.take_of_length_le (by rw [hm]; exact Nat.le_refl _)]
  have hR' : ((y.D R).drop 0).take (rawR z a).length = rawR z a := by rw [hR, List.drop_zero, List.take_of_length_le (Nat.le_refl _)]
  refine ⟨s3B0 y a d (PB_ P m c) (PB_ R (rawR z a).length e) v, ⟨rfl, rfl, rfl, rfl, rfl, (set3B0 a _ _ _).symm, g3B00 y a d _ _ _, fun j hj => getr (by decide) (h3s_rest z y a d) j hj⟩, ?_⟩
  refine StepO.run (l1 := [0, 4, 1, 5, 6, 7, 8, 9, 10, 11, 12, 13, 14]) (l2 := []) pg (KA_ok y) (k3mA01 y a d P m c R (rawR z a).length e v) ⟨⟨⟨⟨trivial, .inr (by rw [hR]; omega)⟩, .inr (by rw [hP2, hm]; omega)⟩, by rw [hL2, hR', strQ_self]⟩, rfl, trivial⟩ (show 1 ≤ 3 by decide) (tm3e_dead (VE3_dead hv) lvE3) (h3s_ok y a d) rfl (ok3e x0 y a d v) fin3
theorem call3_02 {x0 z : MX} {a d : OV} {P m c : Nat} {v : VF} {ρ0 : Nat → PB} {W0 : World} (hO : capOk z a.P a.n) (he : z.D P = rawR z a) (hm : m = (rawR z a).length) (h0 : 0 < m) (hv : ∀ j, DeadV (v j)) : StepO Try.prog none (z3 x0 a) ρ0 W0 q3 [3, 4, 0, 1, 5, 6, 7, 8, 9, 10, 11, 12, 13, 14] (s3A0 z a d (PB_ P m c) v) (J3 x0 a ρ0 W0) := by
  refine StepO.call' (F := z.F) (g := 17) (vs := [a.v]) (f := .func 17) (args := #[.tmp 47]) (dst := some 48) pg (by kernel_rfl) trivial rfl rfl fn17 rfl (g3A00 z a d _ _) rfl (raw17 hO) ?_
  rintro F' v' hf ⟨y, R, e, rfl, rfl, hk, hR⟩
  have hP2 : y.D P = rawR z a := by rw [kp_byt hk (by rw [he, ← hm]; exact h0)]; exact he
  have hL : ((z.D P).drop 0).take m = rawR z a := by rw [he, List.drop_zero, List.take_of_length_le (by rw [hm]; exact Nat.le_refl _)]
  have hL2 : ((y.D P).drop 0).take m = rawR z a := by rw [hP2, List.drop_zero, List.take_of_length_le (by rw [hm]; exact Nat.le_refl _)]
  have hR' : ((y.D R).drop 0).take (rawR z a).length = rawR z a := by rw [hR, List.drop_zero, List.take_of_length_le (Nat.le_refl _)]
  refine ⟨s3B0 y a d (PB_ P m c) (PB_ R (rawR z a).length e) v, ⟨rfl, rfl, rfl, rfl, rfl, (set3B0 a _ _ _).symm, g3B00 y a d _ _ _, fun j hj => getr (by decide) (h3s_rest z y a d) j hj⟩, ?_⟩
  refine StepO.run (l1 := [4, 0, 1, 5, 6, 7, 8, 9, 10, 11, 12, 13, 14]) (l2 := []) pg (KA_ok y) (k3mA02 y a d P m c R (rawR z a).length e v) ⟨⟨⟨⟨trivial, .inr (by rw [hR]; omega)⟩, .inr (by rw [hP2, hm]; omega)⟩, by rw [hL2, hR', strQ_self]⟩, rfl, trivial⟩ (show 1 ≤ 3 by decide) (tm3e_dead (VE3_dead hv) lvE3) (h3s_ok y a d) rfl (ok3e x0 y a d v) fin3
theorem call3_10 {x0 z : MX} {a d : OV} {P m c : Nat} {v : VF} {ρ0 : Nat → PB} {W0 : World} (hO : capOk z a.P a.n) (he : z.D P = rawR z a) (hm : m = (rawR z a).length) (h0 : 0 < m) (hv : ∀ j, DeadV (v j)) : StepO Try.prog none (z3 x0 a) ρ0 W0 q3 [3, 1, 4, 5, 6, 7, 8, 9, 10, 11, 12, 13, 14] (s3A1 z a d (PB_ P m c) v) (J3 x0 a ρ0 W0) := by
  refine StepO.call' (F := z.F) (g := 17) (vs := [a.v]) (f := .func 17) (args := #[.tmp 47]) (dst := some 48) pg (by kernel_rfl) trivial rfl rfl fn17 rfl (g3A10 z a d _ _) rfl (raw17 hO) ?_
  rintro F' v' hf ⟨y, R, e, rfl, rfl, hk, hR⟩
  have hP2 : y.D P = rawR z a := by rw [kp_byt hk (by rw [he, ← hm]; exact h0)]; exact he
  have hL : ((z.D P).drop 0).take m = rawR z a := by rw [he, List.drop_zero, List.take_of_length_le (by rw [hm]; exact Nat.le_refl _)]
  have hL2 : ((y.D P).drop 0).take m = rawR z a := by rw [hP2, List.drop_zero, List.take_of_length_le (by rw [hm]; exact Nat.le_refl _)]
  have hR' : ((y.D R).drop 0).take (rawR z a).length = rawR z a := by rw [hR, List.drop_zero, List.take_of_length_le (Nat.le_refl _)]
  refine ⟨s3B1 y a d (PB_ P m c) (PB_ R (rawR z a).length e) v, ⟨rfl, rfl, rfl, rfl, rfl, (set3B1 a _ _ _).symm, g3B10 y a d _ _ _, fun j hj => getr (by decide) (h3s_rest z y a d) j hj⟩, ?_⟩
  refine StepO.run (l1 := [1, 4, 5, 6, 7, 8, 9, 10, 11, 12, 13, 14]) (l2 := []) pg (KA_ok y) (k3mA10 y a d P m c R (rawR z a).length e v) ⟨⟨⟨⟨trivial, .inr (by rw [hP2, hm]; omega)⟩, .inr (by rw [hR]; omega)⟩, by rw [hL2, hR', strQ_self]⟩, rfl, trivial⟩ (show 1 ≤ 3 by decide) (tm3e_dead (VE3_dead hv) lvE3) (h3s_ok y a d) rfl (ok3e x0 y a d v) fin3
theorem call3_11 {x0 z : MX} {a d : OV} {P m c : Nat} {v : VF} {ρ0 : Nat → PB} {W0 : World} (hO : capOk z a.P a.n) (he : z.D P = rawR z a) (hm : m = (rawR z a).length) (h0 : 0 < m) (hv : ∀ j, DeadV (v j)) : StepO Try.prog none (z3 x0 a) ρ0 W0 q3 [3, 4, 1, 5, 6, 7, 8, 9, 10, 11, 12, 13, 14] (s3A1 z a d (PB_ P m c) v) (J3 x0 a ρ0 W0) := by
  refine StepO.call' (F := z.F) (g := 17) (vs := [a.v]) (f := .func 17) (args := #[.tmp 47]) (dst := some 48) pg (by kernel_rfl) trivial rfl rfl fn17 rfl (g3A10 z a d _ _) rfl (raw17 hO) ?_
  rintro F' v' hf ⟨y, R, e, rfl, rfl, hk, hR⟩
  have hP2 : y.D P = rawR z a := by rw [kp_byt hk (by rw [he, ← hm]; exact h0)]; exact he
  have hL : ((z.D P).drop 0).take m = rawR z a := by rw [he, List.drop_zero, List.take_of_length_le (by rw [hm]; exact Nat.le_refl _)]
  have hL2 : ((y.D P).drop 0).take m = rawR z a := by rw [hP2, List.drop_zero, List.take_of_length_le (by rw [hm]; exact Nat.le_refl _)]
  have hR' : ((y.D R).drop 0).take (rawR z a).length = rawR z a := by rw [hR, List.drop_zero, List.take_of_length_le (Nat.le_refl _)]
  refine ⟨s3B1 y a d (PB_ P m c) (PB_ R (rawR z a).length e) v, ⟨rfl, rfl, rfl, rfl, rfl, (set3B1 a _ _ _).symm, g3B10 y a d _ _ _, fun j hj => getr (by decide) (h3s_rest z y a d) j hj⟩, ?_⟩
  refine StepO.run (l1 := [4, 1, 5, 6, 7, 8, 9, 10, 11, 12, 13, 14]) (l2 := []) pg (KA_ok y) (k3mA11 y a d P m c R (rawR z a).length e v) ⟨⟨⟨⟨trivial, .inr (by rw [hR]; omega)⟩, .inr (by rw [hP2, hm]; omega)⟩, by rw [hL2, hR', strQ_self]⟩, rfl, trivial⟩ (show 1 ≤ 3 by decide) (tm3e_dead (VE3_dead hv) lvE3) (h3s_ok y a d) rfl (ok3e x0 y a d v) fin3
theorem call3_20 {x0 z : MX} {a d : OV} {P m c : Nat} {v : VF} {ρ0 : Nat → PB} {W0 : World} (hO : capOk z a.P a.n) (he : z.D P = rawR z a) (hm : m = (rawR z a).length) (h0 : 0 < m) (hv : ∀ j, DeadV (v j)) : StepO Try.prog none (z3 x0 a) ρ0 W0 q3 [3, 4, 5, 6, 7, 8, 9, 10, 11, 12, 13, 14] (s3A2 z a d (PB_ P m c) (.string (bytesI (((z.D P).drop 0).take m))) v) (J3 x0 a ρ0 W0) := by
  refine StepO.call' (F := z.F) (g := 17) (vs := [a.v]) (f := .func 17) (args := #[.tmp 47]) (dst := some 48) pg (by kernel_rfl) trivial rfl rfl fn17 rfl (g3A20 z a d _ _ _) rfl (raw17 hO) ?_
  rintro F' v' hf ⟨y, R, e, rfl, rfl, hk, hR⟩
  have hP2 : y.D P = rawR z a := by rw [kp_byt hk (by rw [he, ← hm]; exact h0)]; exact he
  have hL : ((z.D P).drop 0).take m = rawR z a := by rw [he, List.drop_zero, List.take_of_length_le (by rw [hm]; exact Nat.le_refl _)]
  have hL2 : ((y.D P).drop 0).take m = rawR z a := by rw [hP2, List.drop_zero, List.take_of_length_le (by rw [hm]; exact Nat.le_refl _)]
  have hR' : ((y.D R).drop 0).take (rawR z a).length = rawR z a := by rw [hR, List.drop_zero, List.take_of_length_le (Nat.le_refl _)]
  refine ⟨s3B2 y a d (PB_ P m c) (.string (bytesI (((z.D P).drop 0).take m))) (PB_ R (rawR z a).length e) v, ⟨rfl, rfl, rfl, rfl, rfl, (set3B2 a _ _ _ _).symm, g3B20 y a d _ _ _ _, fun j hj => getr (by decide) (h3s_rest z y a d) j hj⟩, ?_⟩
  refine StepO.run (l1 := [4, 5, 6, 7, 8, 9, 10, 11, 12, 13, 14]) (l2 := []) pg (KA_ok y) (k3mA20 y a d (((z.D P).drop 0).take m) P m c R (rawR z a).length e v) ⟨⟨⟨trivial, .inr (by rw [hR]; omega)⟩, by rw [hL, hR', strQ_self]⟩, rfl, trivial⟩ (show 1 ≤ 3 by decide) (tm3e_dead (VF3_dead hv) lvF3) (h3s_ok y a d) rfl (ok3f x0 y a d v) fin3
theorem end3 {x0 z : MX} {a d : OV} {P m c : Nat} {v : VF} {ρ0 : Nat → PB} {W0 : World} (hO : capOk z a.P a.n) (he : z.D P = rawR z a) (hm : m = (rawR z a).length) (h0 : 0 < m) (hv2 : ∀ j, DeadV (v j)) : StepW Try.prog none (z3 x0 a) ρ0 W0 w3c (s3w z a d (PB_ P m c) 0 v) Q3 := by
  rw [w3_eq]
  refine StepW.seq (StepW.regionD mixed all3 fun l hl => ?_)
  simp only [List.mem_cons, List.not_mem_nil, or_false] at hl
  rcases hl with rfl | rfl | rfl | rfl | rfl | rfl | rfl | rfl | rfl | rfl
  · exact StepO.run (l1 := [0, 1, 2]) (l2 := [3, 4, 5, 6, 7, 8, 9, 10, 11, 12, 13, 14]) pg KN_ok (k3A20 z a d P m c _) ⟨trivial, .inr (by rw [he, hm]; omega)⟩ (show 1 ≤ 3 by decide) (tm3A2_dead (VN23_dead hv2) lvN23) (h3s_ok z a d) rfl (ok3A2 x0 z a d _ _ _ _) (call3_20 hO he hm h0 (VN23_dead hv2))
  · exact StepO.run (l1 := [0, 2, 1]) (l2 := [3, 4, 5, 6, 7, 8, 9, 10, 11, 12, 13, 14]) pg KN_ok (k3A21 z a d P m c _) ⟨trivial, .inr (by rw [he, hm]; omega)⟩ (show 1 ≤ 3 by decide) (tm3A2_dead (VN23_dead hv2) lvN23) (h3s_ok z a d) rfl (ok3A2 x0 z a d _ _ _ _) (call3_20 hO he hm h0 (VN23_dead hv2))
  · exact StepO.run (l1 := [0, 2]) (l2 := [3, 1, 4, 5, 6, 7, 8, 9, 10, 11, 12, 13, 14]) pg KN_ok (k3A10 z a d P m c _) trivial (show 1 ≤ 3 by decide) (tm3A1_dead (VN13_dead hv2) lvN13) (h3s_ok z a d) rfl (ok3A1 x0 z a d _ _ _ _) (call3_10 hO he hm h0 (VN13_dead hv2))
  · exact StepO.run (l1 := [0, 2]) (l2 := [3, 4, 1, 5, 6, 7, 8, 9, 10, 11, 12, 13, 14]) pg KN_ok (k3A10 z a d P m c _) trivial (show 1 ≤ 3 by decide) (tm3A1_dead (VN13_dead hv2) lvN13) (h3s_ok z a d) rfl (ok3A1 x0 z a d _ _ _ _) (call3_11 hO he hm h0 (VN13_dead hv2))
  · exact StepO.run (l1 := [2, 0, 1]) (l2 := [3, 4, 5, 6, 7, 8, 9, 10, 11, 12, 13, 14]) pg KN_ok (k3A22 z a d P m c _) ⟨trivial, .inr (by rw [he, hm]; omega)⟩ (show 1 ≤ 3 by decide) (tm3A2_dead (VN23_dead hv2) lvN23) (h3s_ok z a d) rfl (ok3A2 x0 z a d _ _ _ _) (call3_20 hO he hm h0 (VN23_dead hv2))
  · exact StepO.run (l1 := [2, 0]) (l2 := [3, 1, 4, 5, 6, 7, 8, 9, 10, 11, 12, 13, 14]) pg KN_ok (k3A11 z a d P m c _) trivial (show 1 ≤ 3 by decide) (tm3A1_dead (VN13_dead hv2) lvN13) (h3s_ok z a d) rfl (ok3A1 x0 z a d _ _ _ _) (call3_10 hO he hm h0 (VN13_dead hv2))
  · exact StepO.run (l1 := [2, 0]) (l2 := [3, 4, 1, 5, 6, 7, 8, 9, 10, 11, 12, 13, 14]) pg KN_ok (k3A11 z a d P m c _) trivial (show 1 ≤ 3 by decide) (tm3A1_dead (VN13_dead hv2) lvN13) (h3s_ok z a d) rfl (ok3A1 x0 z a d _ _ _ _) (call3_11 hO he hm h0 (VN13_dead hv2))
  · exact StepO.run (l1 := [2]) (l2 := [3, 0, 1, 4, 5, 6, 7, 8, 9, 10, 11, 12, 13, 14]) pg KN_ok (k3A00 z a d P m c _) trivial (show 1 ≤ 3 by decide) (tm3A0_dead (VN03_dead hv2) lvN03) (h3s_ok z a d) rfl (ok3A0 x0 z a d _ _ _ _) (call3_00 hO he hm h0 (VN03_dead hv2))
  · exact StepO.run (l1 := [2]) (l2 := [3, 0, 4, 1, 5, 6, 7, 8, 9, 10, 11, 12, 13, 14]) pg KN_ok (k3A00 z a d P m c _) trivial (show 1 ≤ 3 by decide) (tm3A0_dead (VN03_dead hv2) lvN03) (h3s_ok z a d) rfl (ok3A0 x0 z a d _ _ _ _) (call3_01 hO he hm h0 (VN03_dead hv2))
  · exact StepO.run (l1 := [2]) (l2 := [3, 4, 0, 1, 5, 6, 7, 8, 9, 10, 11, 12, 13, 14]) pg KN_ok (k3A00 z a d P m c _) trivial (show 1 ≤ 3 by decide) (tm3A0_dead (VN03_dead hv2) lvN03) (h3s_ok z a d) rfl (ok3A0 x0 z a d _ _ _ _) (call3_02 hO he hm h0 (VN03_dead hv2))
theorem rd3 {x : MX} {a : OV} (ha : a.n ≤ x.CN a.P ∧ a.n ≤ 9223372036854775807 ∧ ∀ i, i < a.n → x.CM a.P i ≤ (x.D (x.CQ a.P i)).length) (kA : okK3 x a) (r1 : 0 ≤ a.asn ∧ a.asn ≤ 4294967295) (r2 : 0 ≤ a.hold ∧ a.hold ≤ 65535) (r3 : 0 ≤ a.id ∧ a.id ≤ 4294967295) : Rd Try.prog x.F 3 [a.v] (.bool true) := by
  have A1 : as6 x a := ⟨rfl, ha.1, ha.2.1⟩
  cases f1 : fewE x a with
  | false => exact Rd.run pg (KA_ok x) (k3o x a) ⟨⟨⟨trivial, A1⟩, by rw [f1]; rfl⟩, rfl, trivial⟩ rfl
  | true =>
  have hA := few_ok f1 ha.1 ha.2.2
  cases hf : Try.prog.funcs[3]? with
  | none => have := fn3; rw [hf] at this; cases this
  | some fn =>
  have hfn := fn3
  rw [hf] at hfn
  simp only [Option.map_some, Option.some.injEq, Prod.mk.injEq] at hfn
  obtain ⟨h1, h2, h3⟩ := hfn
  refine Rd.ofG hf h1 h2 rfl ?_
  rw [h3]
  show StepG Try.prog none (z3 x a) b3 (z3 x a) Q3
  refine StepW.all fun ρ0 W0 _ => ?_
  refine StepW.downs pg (KA_ok x) (k3d x a) ⟨⟨trivial, A1⟩, by rw [f1]; rfl⟩ (tm3p_dead (VP3_dead vU_dead) lvP3) (g23_ok x a) rfl (ok3d x x a vU) ?_
  rw [up3d, e3_eq]
  have hv := VP3_dead vU_dead
  refine StepW.seq (StepW.region ?_)
  rw [o3_eq]
  refine StepO.run pg KN_ok (k3q x a _) trivial (show 1 ≤ 2 by decide) (tm3q_dead (VQ3_dead hv) lvQ3) (g23_ok x a) rfl (ok3q x x a _) ?_
  refine StepO.call' (F := x.F) (g := 11) (vs := [a.v]) (f := .func 11) (args := #[.tmp 11]) (dst := some 12) pg (by kernel_rfl) trivial rfl rfl fn11 rfl (g3q0 x a _) rfl (lent11 hA) ?_
  rintro F' v hf' ⟨y, P, c, rfl, rfl, hk, hs⟩
  refine ⟨s3r y a (OV.v ⟨a.asn, a.hold, a.id, P, a.n, c⟩) (VQ3 (VP3 vU)), ⟨rfl, rfl, rfl, rfl, rfl, (set3r a _ _).symm, g3r0 y a _ _, fun j hj => getr (by decide) (g23_rest x y a) j hj⟩, ?_⟩
  have hv2 := VS3_dead (VQ3_dead hv)
  refine StepO.run pg KN_ok (k3s y a ⟨a.asn, a.hold, a.id, P, a.n, c⟩ _) trivial (show 1 ≤ 2 by decide) (tm3s_dead hv2 lvS3) (h3s_ok y a _) rfl (ok3s x y a _ _) ?_
  refine StepO.nil (.inl ⟨rfl, ?_⟩)
  have hAy := kp_capOk hk hA
  have hD : capOk y P a.n := hs.capOk hA
  have al : Alike y P a.P a.n := hs.alike hk hA
  have kAy := okK3_keeps hk hA kA
  have ec : check15 y ⟨a.asn, a.hold, a.id, P, a.n, c⟩ = check15 y a := alike_check rfl rfl rfl rfl al
  have er : rawE y ⟨a.asn, a.hold, a.id, P, a.n, c⟩ = rawE y a := alike_raw rfl rfl rfl rfl al
  rw [f3_eq]
  refine StepW.seq (StepW.region ?_)
  rw [p3_eq]
  refine StepO.run pg KN_ok (k3t y a ⟨a.asn, a.hold, a.id, P, a.n, c⟩ _) trivial (show 1 ≤ 3 by decide) (tm3t_dead (VT3_dead hv2) lvT3) (h3s_ok y a _) rfl (ok3t x y a _ _) ?_
  have hv3 := VT3_dead hv2
  refine StepO.call' (F := y.F) (g := 12) (vs := [OV.v ⟨a.asn, a.hold, a.id, P, a.n, c⟩]) (f := .func 12) (args := #[.tmp 14]) (dst := some 15) pg (by kernel_rfl) trivial rfl rfl fn12 rfl (g3t0 y a _ _ _) rfl (raw12 (a := ⟨a.asn, a.hold, a.id, P, a.n, c⟩) hD) ?_
  rintro F' v hf'' (⟨hne, rfl, rfl⟩ | ⟨h0, z, R, e, rfl, rfl, hk2, hR⟩)
  · refine ⟨s3u y a ⟨a.asn, a.hold, a.id, P, a.n, c⟩ (OV.v ⟨a.asn, a.hold, a.id, P, a.n, c⟩) (.tuple #[.slice none 0 0, .int .i64 (check15 y ⟨a.asn, a.hold, a.id, P, a.n, c⟩)]) _, ⟨rfl, rfl, rfl, rfl, rfl, (set3u a _ _ _).symm, g3u0 y a _ _ _ _, fun _ _ => rfl⟩, ?_⟩
    have hv4 := VU3_dead hv3
    refine StepO.run pg KN_ok (k3uN y a ⟨a.asn, a.hold, a.id, P, a.n, c⟩ _ _) trivial (show 1 ≤ 3 by decide) (tm3w_dead hv4 lvU3) (h3s_ok y a _) rfl (ok3uN x y a _ _ _) ?_
    refine StepO.nil (.inl ⟨rfl, ?_⟩)
    have e13 : check13 y a = check15 y a := check_eq hAy (Keeps.refl _) r2.1
    have hn : check15 y a ≠ 0 := by rw [← ec]; exact hne
    have ⟨o1, _⟩ := openE_of (y := y) (a := a) (d := ⟨a.asn, a.hold, a.id, P, a.n, c⟩) rfl rfl rfl rfl al
    refine ((StepG.ranV (s0 := z3 x a) (rd := none) pg (KRW_ok y) (k3E y a ⟨a.asn, a.hold, a.id, P, a.n, c⟩ _ _) ⟨⟨⟨⟨⟨⟨⟨⟨trivial, rfl, hAy, kAy⟩, rfl, hD⟩, by rw [ec, e13]; simp⟩, rfl, hD, hAy⟩, by rw [o1]; rfl⟩, by rw [e13]; simpa using hn⟩, by rw [ec, e13]; simp⟩, rfl, trivial⟩ (show 1 ≤ 3 by decide)).at ρ0 W0).mono ?_
    rintro ex s ⟨rfl, h1, h2⟩
    exact ⟨rfl, h1, h2⟩
  · refine ⟨s3u z a ⟨a.asn, a.hold, a.id, P, a.n, c⟩ (OV.v ⟨a.asn, a.hold, a.id, P, a.n, c⟩) (.tuple #[PB_ R (rawE y ⟨a.asn, a.hold, a.id, P, a.n, c⟩).length e, .int .i64 0]) _, ⟨rfl, rfl, rfl, rfl, rfl, (set3u a _ _ _).symm, g3u0 z a _ _ _ _, fun j hj => getr (by decide) (h3s_rest y z a _) j hj⟩, ?_⟩
    rw [er] at hR ⊢
    have hv4 := VU3_dead hv3
    refine StepO.run pg KN_ok (k3uS z a ⟨a.asn, a.hold, a.id, P, a.n, c⟩ R _ e _) trivial (show 1 ≤ 3 by decide) (tm3w_dead hv4 lvU3) (h3s_ok z a _) rfl (ok3uS x z a _ _ _ _ _) ?_
    refine StepO.nil (.inl ⟨rfl, ?_⟩)
    have hAz := kp_capOk hk2 hAy
    have hDz : capOk z P a.n := kp_capOk hk2 hD
    have kAz := okK3_keeps hk2 hAy kAy
    have alz : Alike z P a.P a.n := by
      have g1 := fun j (hj : j < a.n) => kp_cap hk2 hj hAy.1
      have g2 := fun j (hj : j < a.n) => kp_cap hk2 hj hD.1
      refine ⟨fun j hj => by rw [(g1 j hj).2.1, (g2 j hj).2.1]; exact al.k j hj, fun j hj => by rw [(g1 j hj).2.2.2, (g2 j hj).2.2.2]; exact al.m j hj, fun j hj => ?_⟩
      rw [(g1 j hj).2.2.1, (g2 j hj).2.2.1, (g1 j hj).2.2.2, (g2 j hj).2.2.2]
      have t1 := kp_row hk2 (hAy.2.2 j hj).1
      have t2 := kp_row hk2 (hD.2.2 j hj).1
      rcases t1 with t1 | t1 <;> rcases t2 with t2 | t2
      · rw [t1.2, t2.2]; exact al.eq j hj
      · have := al.m j hj; rw [t2] at this ⊢; rw [← this]; rfl
      · have := al.m j hj; rw [t1] at this ⊢; rw [this]; rfl
      · rw [t1, t2]; rfl
    have e13 : check13 z a = check15 y a := check_eq hAy hk2 r2.1
    have e15 : check15 z ⟨a.asn, a.hold, a.id, P, a.n, c⟩ = check15 y a := by
      rw [alike_check (a := a) (d := ⟨a.asn, a.hold, a.id, P, a.n, c⟩) rfl rfl rfl rfl alz]; exact check15_keeps hAy hk2 r2.1
    have h0a : check15 y a = 0 := by rw [← ec]; exact h0
    have ⟨o1, _⟩ := openE_of (y := z) (a := a) (d := ⟨a.asn, a.hold, a.id, P, a.n, c⟩) rfl rfl rfl rfl alz
    refine StepW.downs pg (KRW_ok z) (k3w z a ⟨a.asn, a.hold, a.id, P, a.n, c⟩ R _ e _) ⟨⟨⟨⟨⟨⟨trivial, rfl, hAz, kAz⟩, rfl, hDz⟩, by rw [e15, e13]; simp⟩, rfl, hDz, hAz⟩, by rw [o1]; rfl⟩, by rw [e13, h0a]; rfl⟩ (tm3w_dead (VW3_dead hv4) lvW3) (h3s_ok z a _) rfl (ok3w x z a _ _ _ _ _) ?_
    rw [up3w]
    have eR : rawR z a = rawE y a := raw_eq hAy hk2 r1.1 r1.2 r3.1 r3.2 r2.1 r2.2
    have hpos : 0 < (rawE y a).length := by unfold rawE head12; rw [List.length_append]; show 0 < 10 + _; omega
    exact end3 hAz (by rw [eR]; exact hR) (by rw [eR]) hpos (VW3_dead hv4)
end
end ob
end Go.Proofs.Ytpfmilkddapfiaa
namespace Go.Proofs.Ytpfmilkddapfiaa
open Go.ChangeShapes Go.WideShapes Go.ChangeAt Go.RowKit Go.Cln
namespace ob
set_option linter.unusedVariables false
noncomputable section
theorem rangeK3 {B : Nat} {W : World} {s h i : Int} {v : Value} (t : FCv W 8 (.list shCap) v) : okK3 (xW B W) (oW s h i v) := fun j hj => by
  have := (FCv.cell (n := 7) t hj (j := 0) (q := .int .u8) rfl (w := 2) rfl).num.2
  exact this
theorem range32 {W : World} {n : Nat} {h : Int} (t : FCv W n (.int .u32) (.int .u32 h)) : 0 ≤ h ∧ h ≤ 4294967295 := t.num.2
theorem range16 {W : World} {n : Nat} {h : Int} (t : FCv W n (.int .u16) (.int .u16 h)) : 0 ≤ h ∧ h ≤ 65535 := t.num.2
theorem lawR {B : Nat} (hB : maxLen ≤ B) {W : World} {s1 h1 i1 : Int} {v1 : Value}
    (z0 : ∀ (j : Nat) (q : FC), OPEN[j]? = some q → ∃ u : Value, ([.int .u32 s1, .int .u16 h1, .int .u32 i1, v1] : List Value)[j]? = some u ∧ FCv W 8 q u) :
    Calls Try.prog 3 #[.agg #[.int .u32 s1, .int .u16 h1, .int .u32 i1, v1]] W fun e w' => e = .returned (.bool true) ∧ Go.RowKit.Below W.heap.size W w' := by
  obtain ⟨u1, e1, t1⟩ := z0 3 _ rfl
  cases e1
  obtain ⟨u3, e3, t3⟩ := z0 1 _ rfl
  cases e3
  obtain ⟨u4, e4, t4⟩ := z0 0 _ rfl
  cases e4
  obtain ⟨u5, e5, t5⟩ := z0 2 _ rfl
  cases e5
  have hs := (famX B W).hs []
  exact rd3 (rawW (s := s1) (h := h1) (i := i1) hB t1) (rangeK3 t1) (range32 t4) (range16 t3) (range32 t5) (fun _ => ⟨0, 0, 0⟩) W [.agg #[.int .u32 s1, .int .u16 h1, .int .u32 i1, v1]] hs (Go.Cln.VL.cons (vrO t1) Go.Cln.VL.nil)
theorem lawRW {W : World} {s1 h1 i1 : Int} {v1 : Value}
    (z0 : ∀ (j : Nat) (q : FC), OPEN[j]? = some q → ∃ u : Value, ([.int .u32 s1, .int .u16 h1, .int .u32 i1, v1] : List Value)[j]? = some u ∧ FCv W 8 q u) :
    Calls Try.prog 3 #[.agg #[.int .u32 s1, .int .u16 h1, .int .u32 i1, v1]] W fun e w' => e = .returned (.bool true) ∧ Go.RowKit.Below W.heap.size W w' :=
  lawR (Nat.le_refl _) z0
end
end ob
end Go.Proofs.Ytpfmilkddapfiaa
