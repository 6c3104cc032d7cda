/- Read off the code by the clean reading. -/
import Derived.Test.YtpfmilkddapfiaaClnMk
import Derived.Test.YtpfmilkddapfiaaClnQd
set_option linter.unusedVariables false
set_option linter.unusedSimpArgs false
set_option linter.deprecated false
set_option maxRecDepth 100000
namespace Go.Proofs.Ytpfmilkddapfiaa
open Go.ChangeShapes Go.WideShapes Go.ChangeAt Go.RowKit Go.Cln
namespace ob
set_option linter.unusedVariables false
noncomputable section
noncomputable def rw15 (x : MX) (args : List Value) : Option (Value × Prop) := match args with
  | [.agg z0] => (ovOf z0).bind fun u => some (.int .i64 (check15 x u), capOk x u.P u.n)
  | _ => none
theorem rw15_ok (x : MX) {args : List Value} {r : Value × Prop} (h : rw15 x args = some r) : flat r.1 = true ∧ args.all farV = true ∧ (r.2 → Rd Try.prog x.F 15 args r.1) := by
  unfold rw15 at h
  split at h
  · rename_i z0
    rw [Option.bind_eq_some_iff] at h
    obtain ⟨u, hu, h⟩ := h
    cases h
    rw [ovOf_v hu]
    exact ⟨rfl, rfl, fun hp => rd15 hp⟩
  · cases h
noncomputable def TR15 (x : MX) (f : FuncId) (args : List Value) : Option (Value × Prop) := if f == 15 then rw15 x args else none
theorem TR15_ok (x : MX) (f : FuncId) (args : List Value) (r : Value × Prop) (h : TR15 x f args = some r) : flat r.1 = true ∧ args.all farV = true ∧ (r.2 → Rd Try.prog x.F f args r.1) := by
  unfold TR15 at h
  by_cases e15 : (f == 15) = true
  · have hf : f = 15 := by simpa using e15
    subst hf
    exact rw15_ok x h
  rw [if_neg e15] at h
  cases h
noncomputable def KT15 (x : MX) : Given := { Given.rds Given.nothing x.F (TR15 x) with fits := true }
theorem KT15_ok (x : MX) : GivenOk Try.prog (KT15 x) := frames_fits ((GivenOk.nothing _).rds (TR15_ok x)) true
def b20 : Code := ((Try.prog.funcs[20]?).bind (·.body)).getD .skip
theorem fn20 : (Try.prog.funcs[20]?).map (fun f => (f.body, f.results.toList, f.ntmps)) = some (some b20, [.cell 4 45, .tmp 5], 63) := by kernel_rfl
def l20 : Code := loopB Try.prog 20 0
def e20 : Code := sndC (sndC (sndC (sndC (sndC (sndC b20)))))
noncomputable def z20 (x : MX) (a b : OV) : St := { smSt 1 [some (.fam x.F)] [] with tmps := [a.v, b.v] ++ List.replicate 61 undef, defers := [] }
noncomputable def go20 (K : Given) (c : Code) (s : St) (o : List (Option Bool)) : Option (Exit × St) := (mk Try.prog K 300).code 20 none c { s with obl := True, orc := o }
noncomputable def gd20 (K : Given) (s : St) (o : List (Option Bool)) : Option (St × Code) := down (mk Try.prog K 300) 20 none [2, 2, 2, 2, 2, 3, 2, 0] b20 { s with obl := True, orc := o }
noncomputable def tm20a (v : VF) (a b : OV) (i : Nat) : List Value := (a.v :: b.v :: .pointer (some ⟨1, 0, none⟩) :: .pointer (some ⟨2, 0, none⟩) :: .pointer (some ⟨3, 0, none⟩) :: vs v 5 3 (.func (.func 40) #[] #[.pointer (some ⟨2, 0, none⟩)] :: .pointer (some ⟨4, 0, none⟩) :: vs v 10 35 (PC a.P a.n a.c :: .int .i64 (nI a.n) :: .int .i64 (nI i) :: vs v 48 15 [])))
theorem tm20a_dead {v : VF} {a b : OV} {i : Nat} {B : Nat → Bool} (h : ∀ i, DeadV (v i)) (hB : ∀ i, ((Nat.ble 0 i && Nat.ble i 4) || (Nat.ble 8 i && Nat.ble i 9) || (Nat.ble 45 i && Nat.ble i 47)) = true → B i = true) : deadT B 0 (tm20a v a b i) :=
  dl (hB 0 rfl) (dl (hB 1 rfl) (dl (hB 2 rfl) (dl (hB 3 rfl) (dl (hB 4 rfl) (deadT_vs h 3 (dl (hB 8 rfl) (dl (hB 9 rfl) (deadT_vs h 35 (dl (hB 45 rfl) (dl (hB 46 rfl) (dl (hB 47 rfl) (deadT_vs h 15 (trivial)))))))))))))
noncomputable def tm20e (v : VF) (a b : OV) : List Value := (a.v :: b.v :: v 2 :: v 3 :: .pointer (some ⟨3, 0, none⟩) :: .int .i64 0 :: vs v 6 57 [])
theorem tm20e_dead {v : VF} {a b : OV} {B : Nat → Bool} (h : ∀ i, DeadV (v i)) (hB : ∀ i, ((Nat.ble 0 i && Nat.ble i 1) || (Nat.ble 4 i && Nat.ble i 5)) = true → B i = true) : deadT B 0 (tm20e v a b) :=
  dl (hB 0 rfl) (dl (hB 1 rfl) (dn (h 2) (dn (h 3) (dl (hB 4 rfl) (dl (hB 5 rfl) (deadT_vs h 57 (trivial)))))))
noncomputable def h20a (x : MX) (a b : OV) (h : Int) (e : Bool) : Nat → Option Ob := fun j => match j with
  | 0 => some (.fam x.F)
  | 1 => some (.cells (.lit a.l) 26)
  | 2 => some (.cells (.lit b.l) 26)
  | 3 => some (.cells (.lit [.int .u16 0, .bool false, .slice none 0 0]) 45)
  | 4 => some (.cells (.lit [.int .u16 h, .bool e, .slice none 0 0]) 45)
  | _ => none
theorem h20a_ok (x : MX) (a b : OV) (h : Int) (e : Bool) : Go.Cln.RowsIn (h20a x a b h e) := by
  intro b' n' w' g' t h
  unfold h20a at h
  split at h <;> cases h
noncomputable def h20b (x : MX) (a b : OV) (h : Int) (e : Bool) (M : List Int) (m k : Nat) : Nat → Option Ob := fun j => match j with
  | 0 => some (.fam x.F)
  | 1 => some (.cells (.lit a.l) 26)
  | 2 => some (.cells (.lit b.l) 26)
  | 3 => some (.cells (.lit [.int .u16 0, .bool false, .slice none 0 0]) 45)
  | 4 => some (.cells (.lit [.int .u16 h, .bool e, .slice (some ⟨5, 0, some 1⟩) m k]) 45)
  | 5 => some (.cells (.ints .u8 M) 5)
  | _ => none
theorem h20b_ok (x : MX) (a b : OV) (h : Int) (e : Bool) (M : List Int) (m k : Nat) : Go.Cln.RowsIn (h20b x a b h e M m k) := by
  intro b' n' w' g' t h
  unfold h20b at h
  split at h <;> cases h
noncomputable def h20c (x : MX) (a b : OV) (h : Int) (e : Bool) (q : Int) : Nat → Option Ob := fun j => match j with
  | 0 => some (.fam x.F)
  | 1 => some (.cells (.lit a.l) 26)
  | 2 => some (.cells (.lit b.l) 26)
  | 3 => some (.cells (.lit [.int .u16 0, .bool false, .slice none 0 0]) 45)
  | 4 => some (.cells (.lit [.int .u16 h, .bool e, .slice (some ⟨5, 0, some 1⟩) 1 1]) 45)
  | 5 => some (.cells (.lit [.int .u8 q]) 5)
  | _ => none
theorem h20c_ok (x : MX) (a b : OV) (h : Int) (e : Bool) (q : Int) : Go.Cln.RowsIn (h20c x a b h e q) := by
  intro b' n' w' g' t h
  unfold h20c at h
  split at h <;> cases h
noncomputable def h20r (x : MX) (a b : OV) (h : Int) (e : Bool) (M : List Int) (m k : Nat) : Nat → Option Ob := fun j => match j with
  | 0 => some (.fam x.F)
  | 1 => some (.cells (.lit a.l) 26)
  | 2 => some (.cells (.lit b.l) 26)
  | 3 => some (.cells (.lit [.int .u16 h, .bool e, .slice (some ⟨4, 0, some 1⟩) m k]) 45)
  | 4 => some (.cells (.ints .u8 M) 5)
  | _ => none
theorem h20r_ok (x : MX) (a b : OV) (h : Int) (e : Bool) (M : List Int) (m k : Nat) : Go.Cln.RowsIn (h20r x a b h e M m k) := by
  intro b' n' w' g' t h
  unfold h20r at h
  split at h <;> cases h
noncomputable def h20n (x : MX) (a b : OV) (h : Int) (e : Bool) : Nat → Option Ob := fun j => match j with
  | 0 => some (.fam x.F)
  | 1 => some (.cells (.lit a.l) 26)
  | 2 => some (.cells (.lit b.l) 26)
  | 3 => some (.cells (.lit [.int .u16 h, .bool e, .slice none 0 0]) 45)
  | _ => none
theorem h20n_ok (x : MX) (a b : OV) (h : Int) (e : Bool) : Go.Cln.RowsIn (h20n x a b h e) := by
  intro b' n' w' g' t h
  unfold h20n at h
  split at h <;> cases h
noncomputable def h20t (x : MX) (a b : OV) (h : Int) (e : Bool) (P m k : Nat) : Nat → Option Ob := fun j => match j with
  | 0 => some (.fam x.F)
  | 1 => some (.cells (.lit a.l) 26)
  | 2 => some (.cells (.lit b.l) 26)
  | 3 => some (.cells (.lit [.int .u16 h, .bool e, PB_ P m k]) 45)
  | _ => none
noncomputable def s20a (x : MX) (a b : OV) (h : Int) (e : Bool) (i : Nat) (v : VF) : St := ⟨tm20a v a b i, [], Tr.rebuild (h20a x a b h e) 5, 5, 1, [], fun _ => false, True, []⟩
noncomputable def s20b (x : MX) (a b : OV) (h : Int) (e : Bool) (M : List Int) (m k i : Nat) (v : VF) : St := ⟨tm20a v a b i, [], Tr.rebuild (h20b x a b h e M m k) 6, 6, 1, [], fun _ => false, True, []⟩
noncomputable def s20c (x : MX) (a b : OV) (h : Int) (e : Bool) (q : Int) (i : Nat) (v : VF) : St := ⟨tm20a v a b i, [], Tr.rebuild (h20c x a b h e q) 6, 6, 1, [], fun _ => false, True, []⟩
noncomputable def s20r (x : MX) (a b : OV) (h : Int) (e : Bool) (M : List Int) (m k : Nat) (v : VF) : St := ⟨tm20e v a b, [], Tr.rebuild (h20r x a b h e M m k) 5, 5, 1, [], fun _ => false, True, []⟩
noncomputable def s20n (x : MX) (a b : OV) (h : Int) (e : Bool) (v : VF) : St := ⟨tm20e v a b, [], Tr.rebuild (h20n x a b h e) 4, 4, 1, [], fun _ => false, True, []⟩
noncomputable def s20t (x : MX) (a b : OV) (h : Int) (e : Bool) (P m k : Nat) (v : VF) : St := ⟨tm20e v a b, [], Tr.rebuild (h20t x a b h e P m k) 5, 5, 1, [], fun _ => false, True, []⟩
def WD20 (i : Nat) : Bool := (Nat.ble 5 i && Nat.ble i 7) || Nat.beq i 13 || (Nat.ble 15 i && Nat.ble i 22) || (Nat.ble 24 i && Nat.ble i 30) || (Nat.ble 32 i && Nat.ble i 42) || Nat.beq i 44
noncomputable def VD20 (v : VF) : VF := fun i => match Nat.beq i 12 with
  | true => .agg #[junk, junk, junk, junk]
  | false => match Nat.beq i 14 with
  | true => .agg #[junk, junk, junk, junk]
  | false => match Nat.beq i 43 with
  | true => .agg #[junk, junk, junk]
  | false => match WD20 i with
  | true => junk
  | false => v i
def BD20 (i : Nat) : Bool := ((Nat.ble 0 i && Nat.ble i 4) || (Nat.ble 8 i && Nat.ble i 9) || (Nat.ble 45 i && Nat.ble i 47)) || WD20 i || Nat.beq i 12 || Nat.beq i 14 || Nat.beq i 43
theorem VD20_dead {v : VF} (h : ∀ i, DeadV (v i)) (i : Nat) : DeadV (VD20 v i) := by
  unfold VD20
  split
  · exact ⟨rfl, fun _ => rfl, fun _ => rfl⟩
  split
  · exact ⟨rfl, fun _ => rfl, fun _ => rfl⟩
  split
  · exact ⟨rfl, fun _ => rfl, fun _ => rfl⟩
  split
  · exact DeadV.junk
  · exact h i
theorem lvD20 (i : Nat) (h : ((Nat.ble 0 i && Nat.ble i 4) || (Nat.ble 8 i && Nat.ble i 9) || (Nat.ble 45 i && Nat.ble i 47)) = true) : BD20 i = true := jl (jl (jl (jl h)))
def WS20 (i : Nat) : Bool := Nat.beq i 11 || (Nat.ble 48 i && Nat.ble i 49) || Nat.beq i 51 || Nat.beq i 53 || Nat.beq i 61
noncomputable def VS20 (v : VF) : VF := fun i => match Nat.beq i 50 with
  | true => .agg #[junk, junk]
  | false => match Nat.beq i 52 with
  | true => .agg #[junk, junk]
  | false => match WS20 i with
  | true => junk
  | false => v i
def BS20 (i : Nat) : Bool := ((Nat.ble 0 i && Nat.ble i 4) || (Nat.ble 8 i && Nat.ble i 9) || (Nat.ble 45 i && Nat.ble i 47)) || WS20 i || Nat.beq i 50 || Nat.beq i 52
theorem VS20_dead {v : VF} (h : ∀ i, DeadV (v i)) (i : Nat) : DeadV (VS20 v i) := by
  unfold VS20
  split
  · exact ⟨rfl, fun _ => rfl, fun _ => rfl⟩
  split
  · exact ⟨rfl, fun _ => rfl, fun _ => rfl⟩
  split
  · exact DeadV.junk
  · exact h i
theorem lvS20 (i : Nat) (h : ((Nat.ble 0 i && Nat.ble i 4) || (Nat.ble 8 i && Nat.ble i 9) || (Nat.ble 45 i && Nat.ble i 47)) = true) : BS20 i = true := jl (jl (jl h))
def WH20 (i : Nat) : Bool := Nat.beq i 11 || (Nat.ble 48 i && Nat.ble i 49) || Nat.beq i 51 || (Nat.ble 53 i && Nat.ble i 61)
noncomputable def VH20 (v : VF) : VF := fun i => match Nat.beq i 50 with
  | true => .agg #[junk, junk]
  | false => match Nat.beq i 52 with
  | true => .agg #[junk, junk]
  | false => match WH20 i with
  | true => junk
  | false => v i
def BH20 (i : Nat) : Bool := ((Nat.ble 0 i && Nat.ble i 4) || (Nat.ble 8 i && Nat.ble i 9) || (Nat.ble 45 i && Nat.ble i 47)) || WH20 i || Nat.beq i 50 || Nat.beq i 52
theorem VH20_dead {v : VF} (h : ∀ i, DeadV (v i)) (i : Nat) : DeadV (VH20 v i) := by
  unfold VH20
  split
  · exact ⟨rfl, fun _ => rfl, fun _ => rfl⟩
  split
  · exact ⟨rfl, fun _ => rfl, fun _ => rfl⟩
  split
  · exact DeadV.junk
  · exact h i
theorem lvH20 (i : Nat) (h : ((Nat.ble 0 i && Nat.ble i 4) || (Nat.ble 8 i && Nat.ble i 9) || (Nat.ble 45 i && Nat.ble i 47)) = true) : BH20 i = true := jl (jl (jl h))
def WX20 (i : Nat) : Bool := Nat.beq i 48
noncomputable def VX20 (v : VF) : VF := fun i => match WX20 i with
  | true => junk
  | false => v i
def BX20 (i : Nat) : Bool := ((Nat.ble 0 i && Nat.ble i 4) || (Nat.ble 8 i && Nat.ble i 9) || (Nat.ble 45 i && Nat.ble i 47)) || WX20 i
theorem VX20_dead {v : VF} (h : ∀ i, DeadV (v i)) (i : Nat) : DeadV (VX20 v i) := jD (W := WX20) h i
theorem lvX20 (i : Nat) (h : ((Nat.ble 0 i && Nat.ble i 4) || (Nat.ble 8 i && Nat.ble i 9) || (Nat.ble 45 i && Nat.ble i 47)) = true) : BX20 i = true := jl h
def WE20 (i : Nat) : Bool := (Nat.ble 2 i && Nat.ble i 3) || (Nat.ble 8 i && Nat.ble i 9) || (Nat.ble 45 i && Nat.ble i 47)
noncomputable def VE20 (v : VF) : VF := fun i => match Nat.beq i 62 with
  | true => .agg #[junk, junk, junk]
  | false => match WE20 i with
  | true => junk
  | false => v i
def BE20 (i : Nat) : Bool := ((Nat.ble 0 i && Nat.ble i 1) || (Nat.ble 4 i && Nat.ble i 5)) || WE20 i || Nat.beq i 62
theorem VE20_dead {v : VF} (h : ∀ i, DeadV (v i)) (i : Nat) : DeadV (VE20 v i) := by
  unfold VE20
  split
  · exact ⟨rfl, fun _ => rfl, fun _ => rfl⟩
  split
  · exact DeadV.junk
  · exact h i
theorem lvE20 (i : Nat) (h : ((Nat.ble 0 i && Nat.ble i 1) || (Nat.ble 4 i && Nat.ble i 5)) = true) : BE20 i = true := jl (jl h)
theorem k20e0 (x : MX) (a b : OV) : (go20 (KT15 x) b20 (z20 x a b) [some true]).bind (fun r => (results1 Try.prog r.2 [.cell 4 45, .tmp 5]).map fun q => (r.1, q.2.obl, r.2.defers, oneOf q.1, r.2.heap.get 0)) = some (.ret, (((True ∧ (x.F = x.F ∧ capOk x a.P a.n)) ∧ (x.F = x.F ∧ capOk x b.P b.n)) ∧ (check15 x a == 2) = true), [], .tuple #[.agg #[.int .u16 0, .bool false, .slice none 0 0], .int .i64 2], some (.fam x.F)) := by kernel_rfl
theorem k20e1 (x : MX) (a b : OV) : (go20 (KT15 x) b20 (z20 x a b) [some false, none, none, some true]).bind (fun r => (results1 Try.prog r.2 [.cell 4 45, .tmp 5]).map fun q => (r.1, q.2.obl, r.2.defers, oneOf q.1, r.2.heap.get 0)) = some (.ret, ((((True ∧ (x.F = x.F ∧ capOk x a.P a.n)) ∧ (x.F = x.F ∧ capOk x b.P b.n)) ∧ (check15 x a == 2) = false) ∧ (check15 x b == 2) = true), [], .tuple #[.agg #[.int .u16 0, .bool false, .slice none 0 0], .int .i64 2], some (.fam x.F)) := by kernel_rfl
theorem k20e2 (x : MX) (a b : OV) : (go20 (KT15 x) b20 (z20 x a b) [some false, none, none, some false, some true]).bind (fun r => (results1 Try.prog r.2 [.cell 4 45, .tmp 5]).map fun q => (r.1, q.2.obl, r.2.defers, oneOf q.1, r.2.heap.get 0)) = some (.ret, (((((True ∧ (x.F = x.F ∧ capOk x a.P a.n)) ∧ (x.F = x.F ∧ capOk x b.P b.n)) ∧ (check15 x a == 2) = false) ∧ (check15 x b == 2) = false) ∧ (check15 x a != 0) = true), [], .tuple #[.agg #[.int .u16 0, .bool false, .slice none 0 0], .int .i64 3], some (.fam x.F)) := by kernel_rfl
theorem k20e3 (x : MX) (a b : OV) : (go20 (KT15 x) b20 (z20 x a b) [some false, none, none, some false, some false, none, none, some true]).bind (fun r => (results1 Try.prog r.2 [.cell 4 45, .tmp 5]).map fun q => (r.1, q.2.obl, r.2.defers, oneOf q.1, r.2.heap.get 0)) = some (.ret, ((((((True ∧ (x.F = x.F ∧ capOk x a.P a.n)) ∧ (x.F = x.F ∧ capOk x b.P b.n)) ∧ (check15 x a == 2) = false) ∧ (check15 x b == 2) = false) ∧ (check15 x a != 0) = false) ∧ (check15 x b != 0) = true), [], .tuple #[.agg #[.int .u16 0, .bool false, .slice none 0 0], .int .i64 3], some (.fam x.F)) := by kernel_rfl
theorem k20D1 (x : MX) (a b : OV) : (gd20 (KT15 x) (z20 x a b) [some false, none, none, some false, some false, none, none, some false, some true]).map (fun r => (r.2, r.1.obl, seenInT BD20 r.1 (s20a x a b b.hold (a.asn == b.asn) 0 (VD20 vU)) [0, 1, 2, 3, 4])) = some (.loop l20, (((((((True ∧ (x.F = x.F ∧ capOk x a.P a.n)) ∧ (x.F = x.F ∧ capOk x b.P b.n)) ∧ (check15 x a == 2) = false) ∧ (check15 x b == 2) = false) ∧ (check15 x a != 0) = false) ∧ (check15 x b != 0) = false) ∧ decide (b.hold < a.hold) = true), seenAsT BD20 (s20a x a b b.hold (a.asn == b.asn) 0 (VD20 vU)) [0, 1, 2, 3, 4] 5) := by kernel_rfl
theorem k20D2 (x : MX) (a b : OV) : (gd20 (KT15 x) (z20 x a b) [some false, none, none, some false, some false, none, none, some false, some false]).map (fun r => (r.2, r.1.obl, seenInT BD20 r.1 (s20a x a b a.hold (a.asn == b.asn) 0 (VD20 vU)) [0, 1, 2, 3, 4])) = some (.loop l20, (((((((True ∧ (x.F = x.F ∧ capOk x a.P a.n)) ∧ (x.F = x.F ∧ capOk x b.P b.n)) ∧ (check15 x a == 2) = false) ∧ (check15 x b == 2) = false) ∧ (check15 x a != 0) = false) ∧ (check15 x b != 0) = false) ∧ decide (b.hold < a.hold) = false), seenAsT BD20 (s20a x a b a.hold (a.asn == b.asn) 0 (VD20 vU)) [0, 1, 2, 3, 4] 5) := by kernel_rfl
theorem ok20D (x0 x : MX) (a b : OV) (h : Int) (e : Bool) (i : Nat) (v : VF) : picOkT BD20 (z20 x0 a b) (s20a x a b h e i (VD20 v)) [0, 1, 2, 3, 4] = true := by kernel_rfl
def pS20 (x : MX) (a b : OV) (i : Nat) : Prop := ((((((True ∧ decide (nI i < nI a.n) = true) ∧ (0 ≤ nI i ∧ nI i < nI a.n)) ∧ ((0 + i * 2) % 2 = 0 ∧ (0 + i * 2) / 2 < x.CN a.P)) ∧ (x.F = x.F ∧ capOk x b.P b.n ∧ b.l = b.l)) ∧ hasE x b (x.CK a.P (ix2 i)) = false) ∧ IntKind.i64.wrap (nI i + 1) = nI i + 1)
def pH20 (x : MX) (a b : OV) (i : Nat) : Prop := ((((((True ∧ decide (nI i < nI a.n) = true) ∧ (0 ≤ nI i ∧ nI i < nI a.n)) ∧ ((0 + i * 2) % 2 = 0 ∧ (0 + i * 2) / 2 < x.CN a.P)) ∧ (x.F = x.F ∧ capOk x b.P b.n ∧ b.l = b.l)) ∧ hasE x b (x.CK a.P (ix2 i)) = true) ∧ IntKind.i64.wrap (nI i + 1) = nI i + 1)
def pG20 (x : MX) (a b : OV) (M : List Int) (m k i : Nat) : Prop := ((((((((True ∧ decide (nI i < nI a.n) = true) ∧ (0 ≤ nI i ∧ nI i < nI a.n)) ∧ ((0 + i * 2) % 2 = 0 ∧ (0 + i * 2) / 2 < x.CN a.P)) ∧ (x.F = x.F ∧ capOk x b.P b.n ∧ b.l = b.l)) ∧ hasE x b (x.CK a.P (ix2 i)) = true) ∧ decide (m + 1 ≤ k) = false) ∧ (0 + 1 ≤ ([x.CK a.P (ix2 i)] : List Int).length ∧ 0 + m ≤ M.length ∧ (m + 1) * 1 ≤ mostBytes ∧ m + 1 ≤ mostBytes)) ∧ IntKind.i64.wrap (nI i + 1) = nI i + 1)
theorem k20AS (x : MX) (a b : OV) (h : Int) (e : Bool) (i : Nat) (v : VF) : (go20 (K40 x b) l20 (s20a x a b h e i v) [some true, some true, some false, some true, some false, some true]).map (fun r => (r.1, r.2.obl, seenInT BS20 r.2 (s20a x a b h e (i + 1) (VS20 v)) [0, 1, 2, 3, 4])) = some (.normal, pS20 x a b i, seenAsT BS20 (s20a x a b h e (i + 1) (VS20 v)) [0, 1, 2, 3, 4] 6) := by kernel_rfl
theorem ok20AS (x0 x : MX) (a b : OV) (h : Int) (e : Bool) (i : Nat) (v : VF) : picOkT BS20 (z20 x0 a b) (s20a x a b h e (i + 1) (VS20 v)) [0, 1, 2, 3, 4] = true := by kernel_rfl
theorem k20AH (x : MX) (a b : OV) (h : Int) (e : Bool) (i : Nat) (v : VF) : (go20 (K40 x b) l20 (s20a x a b h e i v) [some true, some true, some false, some true, some true, some true]).map (fun r => (r.1, r.2.obl, seenInT BH20 r.2 (s20c x a b h e (x.CK a.P (ix2 i)) (i + 1) (VH20 v)) [0, 1, 2, 3, 4, 7])) = some (.normal, pH20 x a b i, seenAsT BH20 (s20c x a b h e (x.CK a.P (ix2 i)) (i + 1) (VH20 v)) [0, 1, 2, 3, 4, 7] 8) := by kernel_rfl
theorem ok20AH (x0 x : MX) (a b : OV) (h : Int) (e : Bool) (i : Nat) (v : VF) : picOkT BH20 (z20 x0 a b) (s20c x a b h e (x.CK a.P (ix2 i)) (i + 1) (VH20 v)) [0, 1, 2, 3, 4, 7] = true := by kernel_rfl
theorem k20BS (x : MX) (a b : OV) (h : Int) (e : Bool) (M : List Int) (m k : Nat) (i : Nat) (v : VF) : (go20 (K40 x b) l20 (s20b x a b h e M m k i v) [some true, some true, some false, some true, some false, some true]).map (fun r => (r.1, r.2.obl, seenInT BS20 r.2 (s20b x a b h e M m k (i + 1) (VS20 v)) [0, 1, 2, 3, 4, 5])) = some (.normal, pS20 x a b i, seenAsT BS20 (s20b x a b h e M m k (i + 1) (VS20 v)) [0, 1, 2, 3, 4, 5] 7) := by kernel_rfl
theorem ok20BS (x0 x : MX) (a b : OV) (h : Int) (e : Bool) (M : List Int) (m k : Nat) (i : Nat) (v : VF) : picOkT BS20 (z20 x0 a b) (s20b x a b h e M m k (i + 1) (VS20 v)) [0, 1, 2, 3, 4, 5] = true := by kernel_rfl
theorem k20BH (x : MX) (a b : OV) (h : Int) (e : Bool) (M : List Int) (m k : Nat) (i : Nat) (v : VF) : (go20 (K40 x b) l20 (s20b x a b h e M m k i v) [some true, some true, some false, some true, some true, some false, some true]).map (fun r => (r.1, r.2.obl, seenInT BH20 r.2 (s20b x a b h e (((M.drop 0).take m) ++ [x.CK a.P (ix2 i)]) (m + 1) (m + 1) (i + 1) (VH20 v)) [0, 1, 2, 3, 4, 8])) = some (.normal, pG20 x a b M m k i, seenAsT BH20 (s20b x a b h e (((M.drop 0).take m) ++ [x.CK a.P (ix2 i)]) (m + 1) (m + 1) (i + 1) (VH20 v)) [0, 1, 2, 3, 4, 8] 9) := by kernel_rfl
theorem ok20BH (x0 x : MX) (a b : OV) (h : Int) (e : Bool) (M : List Int) (m k : Nat) (i : Nat) (v : VF) : picOkT BH20 (z20 x0 a b) (s20b x a b h e (((M.drop 0).take m) ++ [x.CK a.P (ix2 i)]) (m + 1) (m + 1) (i + 1) (VH20 v)) [0, 1, 2, 3, 4, 8] = true := by kernel_rfl
theorem k20AX (x : MX) (a b : OV) (h : Int) (e : Bool) (i : Nat) (v : VF) : (go20 KN l20 (s20a x a b h e i v) [some false]).map (fun r => (r.1, r.2.obl, seenInT BX20 r.2 (s20a x a b h e i (VX20 v)) [0, 1, 2, 3, 4])) = some (.exit 1, True ∧ decide (nI i < nI a.n) = false, seenAsT BX20 (s20a x a b h e i (VX20 v)) [0, 1, 2, 3, 4] 5) := by kernel_rfl
theorem ok20AX (x0 x : MX) (a b : OV) (h : Int) (e : Bool) (i : Nat) (v : VF) : picOkT BX20 (z20 x0 a b) (s20a x a b h e i (VX20 v)) [0, 1, 2, 3, 4] = true := by kernel_rfl
theorem k20BX (x : MX) (a b : OV) (h : Int) (e : Bool) (M : List Int) (m k : Nat) (i : Nat) (v : VF) : (go20 KN l20 (s20b x a b h e M m k i v) [some false]).map (fun r => (r.1, r.2.obl, seenInT BX20 r.2 (s20b x a b h e M m k i (VX20 v)) [0, 1, 2, 3, 4, 5])) = some (.exit 1, True ∧ decide (nI i < nI a.n) = false, seenAsT BX20 (s20b x a b h e M m k i (VX20 v)) [0, 1, 2, 3, 4, 5] 6) := by kernel_rfl
theorem ok20BX (x0 x : MX) (a b : OV) (h : Int) (e : Bool) (M : List Int) (m k : Nat) (i : Nat) (v : VF) : picOkT BX20 (z20 x0 a b) (s20b x a b h e M m k i (VX20 v)) [0, 1, 2, 3, 4, 5] = true := by kernel_rfl
theorem k20AE (x : MX) (a b : OV) (h : Int) (e : Bool) (i : Nat) (v : VF) : (go20 KN e20 (s20a x a b h e i v) []).map (fun r => (r.1, r.2.obl, seenInT BE20 r.2 (s20n x a b h e (VE20 v)) [0, 1, 2, 3])) = some (.ret, True, seenAsT BE20 (s20n x a b h e (VE20 v)) [0, 1, 2, 3] 5) := by kernel_rfl
theorem ok20AE (x0 x : MX) (a b : OV) (h : Int) (e : Bool) (i : Nat) (v : VF) : picOkT BE20 (z20 x0 a b) (s20n x a b h e (VE20 v)) [0, 1, 2, 3] = true := by kernel_rfl
theorem k20BE (x : MX) (a b : OV) (h : Int) (e : Bool) (M : List Int) (m k : Nat) (i : Nat) (v : VF) : (go20 KN e20 (s20b x a b h e M m k i v) []).map (fun r => (r.1, r.2.obl, seenInT BE20 r.2 (s20r x a b h e M m k (VE20 v)) [0, 1, 2, 3, 5])) = some (.ret, True, seenAsT BE20 (s20r x a b h e M m k (VE20 v)) [0, 1, 2, 3, 5] 6) := by kernel_rfl
theorem ok20BE (x0 x : MX) (a b : OV) (h : Int) (e : Bool) (M : List Int) (m k : Nat) (i : Nat) (v : VF) : picOkT BE20 (z20 x0 a b) (s20r x a b h e M m k (VE20 v)) [0, 1, 2, 3, 5] = true := by kernel_rfl
theorem up20 (x : MX) (a b : OV) (ρ0 : Nat → PB) (W0 : World) (Q_ : Exit → St → Prop) : upW Try.prog none (z20 x a b) ρ0 W0 [2, 2, 2, 2, 2, 3, 2, 0] b20 Q_ = fun e s => (fun e s => (e = .normal ∧ StepW Try.prog none (z20 x a b) ρ0 W0 e20 s Q_) ∨ (e ≠ .normal ∧ Q_ e s)) (blockOut 1 e) s := by kernel_rfl
end
end ob
end Go.Proofs.Ytpfmilkddapfiaa
namespace Go.Proofs.Ytpfmilkddapfiaa
open Go.ChangeShapes Go.WideShapes Go.ChangeAt Go.RowKit Go.Cln
namespace ob
set_option linter.unusedVariables false
noncomputable section
def SesR (x : MX) (h : Int) (e : Bool) (L : List Int) (F' : Nat → Nat → Cells) (v : Value) : Prop := (L = [] ∧ F' = x.F ∧ v = .agg #[.int .u16 h, .bool e, .slice none 0 0]) ∨ (0 < L.length ∧ ∃ (y : MX) (P c : Nat), F' = y.F ∧ v = .agg #[.int .u16 h, .bool e, PB_ P L.length c] ∧ Keeps x.F y.F ∧ y.D P = L)
noncomputable def accM (x : MX) (a b : OV) : Nat → List Int
  | 0 => []
  | i + 1 => accM x a b i ++ (bif hasE x b (x.CK a.P i) then [x.CK a.P i] else [])
noncomputable def errE (x : MX) (a b : OV) : Int := bif (check15 x a == 2) || (check15 x b == 2) then 2 else bif (check15 x a != 0) || (check15 x b != 0) then 3 else 0
noncomputable def lessH (a b : OV) : Int := bif decide (b.hold < a.hold) then b.hold else a.hold
def MeetR (x : MX) (a b : OV) (F' : Nat → Nat → Cells) (v : Value) : Prop := ∃ u, v = .tuple #[u, .int .i64 (errE x a b)] ∧ (errE x a b ≠ 0 → SesR x 0 false [] F' u) ∧ (errE x a b = 0 → SesR x (lessH a b) (a.asn == b.asn) (accM x a b a.n) F' u)
theorem accM_len (x : MX) (a b : OV) : ∀ i, (accM x a b i).length ≤ i
  | 0 => Nat.le_refl _
  | i + 1 => by
    have := accM_len x a b i
    unfold accM
    rw [List.length_append]
    cases hasE x b (x.CK a.P i)
    · simp only [cond_false, List.length_nil]; omega
    · simp only [cond_true, List.length_cons, List.length_nil]; omega
theorem res20n (x : MX) (a b : OV) (h : Int) (e : Bool) (v : VF) : (results1 Try.prog (s20n x a b h e v) [.cell 4 45, .tmp 5]).map (fun q => (q.1, q.2.obl)) = some ([.agg #[.int .u16 h, .bool e, .slice none 0 0], .int .i64 0], True) := by kernel_rfl
theorem res20t (x : MX) (a b : OV) (h : Int) (e : Bool) (P m k : Nat) (v : VF) : (results1 Try.prog (s20t x a b h e P m k v) [.cell 4 45, .tmp 5]).map (fun q => (q.1, q.2.obl)) = some ([.agg #[.int .u16 h, .bool e, PB_ P m k], .int .i64 0], True) := by kernel_rfl
theorem g20n0 (x : MX) (a b : OV) (h : Int) (e : Bool) (v : VF) : (s20n x a b h e v).heap.get 0 = some (.fam x.F) := by kernel_rfl
theorem g20t0 (x : MX) (a b : OV) (h : Int) (e : Bool) (P m k : Nat) (v : VF) : (s20t x a b h e P m k v).heap.get 0 = some (.fam x.F) := by kernel_rfl
theorem g20r0 (x : MX) (a b : OV) (h : Int) (e : Bool) (M : List Int) (m k : Nat) (v : VF) : (s20r x a b h e M m k v).heap.get 0 = some (.fam x.F) := by kernel_rfl
theorem g20r3 (x : MX) (a b : OV) (h : Int) (e : Bool) (M : List Int) (m k : Nat) (v : VF) : (s20r x a b h e M m k v).heap.get 3 = some (.cells (.lit [.int .u16 h, .bool e, .slice (some ⟨4, 0, some 1⟩) m k]) 45) := by kernel_rfl
theorem g20r4 (x : MX) (a b : OV) (h : Int) (e : Bool) (M : List Int) (m k : Nat) (v : VF) : (s20r x a b h e M m k v).heap.get 4 = some (.cells (.ints .u8 M) 5) := by kernel_rfl
theorem g20c5 (x : MX) (a b : OV) (h : Int) (e : Bool) (q : Int) (i : Nat) (v : VF) : (s20c x a b h e q i v).heap.get 5 = some (.cells (.lit [.int .u8 q]) 5) := by kernel_rfl
theorem g20b5 (x : MX) (a b : OV) (h : Int) (e : Bool) (M : List Int) (m k i : Nat) (v : VF) : (s20b x a b h e M m k i v).heap.get 5 = some (.cells (.ints .u8 M) 5) := by kernel_rfl
theorem z20_base (x : MX) (a b : OV) (j : Nat) (o : Ob) (h : (z20 x a b).heap.get j = some o) : (z20 x a b).may j = false := by
  obtain ⟨rfl, _⟩ := fam_get (orc := []) (show (smSt 1 [some (.fam x.F)] []).heap.get j = some o from h)
  rfl
theorem took20 (x : MX) (a b : OV) (h : Int) (e : Bool) (M : List Int) (m k P c' : Nat) (v : VF) : TookS (s20r x a b h e M m k v) (s20t (x.wD (updF x.D P M)) a b h e P m c' v) x.F (fun g => Nat.beq g 1000) 1000 4 3 2 (.ints .u8 M) (.lit [.int .u16 h, .bool e, .slice (some ⟨4, 0, some 1⟩) m k]) 45 m P c' where
  next := rfl
  roB := rfl
  ro := rfl
  hid := rfl
  defers := rfl
  tmps := rfl
  zero := by rw [← putB_F]; kernel_rfl
  gone := by kernel_rfl
  cell := ⟨.lit [.int .u16 h, .bool e, PB_ P m c'], by kernel_rfl, fun k u hu => by
    rcases k with _ | _ | _ | k
    · exact .inr ⟨by decide, hu⟩
    · exact .inr ⟨by decide, hu⟩
    · cases hu; exact .inl ⟨rfl, rfl⟩
    · cases hu⟩
  rest := fun j h0 hb hm => by
    show (Tr.rebuild _ _).get j = (Tr.rebuild _ _).get j
    rw [Tr.get_rebuild _ _ _ (by decide), Tr.get_rebuild _ _ _ (by decide)]
    split
    · rcases j with _ | _ | _ | _ | _ | j
      · exact absurd rfl h0
      · rfl
      · rfl
      · exact absurd rfl hm
      · exact absurd rfl hb
      · rfl
    · rfl
theorem one_ints (q : Int) (i : Nat) (v : Value) (h : (Cells.ints .u8 [q]).get i = some v) : (Cells.lit [.int .u8 q]).get i = some v := (lit_ints_fam (L := [q]) i v h).1
theorem sub20 (x : MX) (a b : OV) (h : Int) (e : Bool) (q : Int) (i : Nat) (v : VF) : Sub (s20c x a b h e q i v) (s20b x a b h e [q] 1 1 i v) :=
  Sub.block rfl rfl rfl rfl (g20c5 x a b h e q i v) (g20b5 x a b h e [q] 1 1 i v) (one_ints q) fun j hj => by
    show (Tr.rebuild _ _).get j = (Tr.rebuild _ _).get j
    rw [Tr.get_rebuild _ _ _ (by decide), Tr.get_rebuild _ _ _ (by decide)]
    split
    · rcases j with _ | _ | _ | _ | _ | _ | j
      · rfl
      · rfl
      · rfl
      · rfl
      · rfl
      · exact absurd rfl hj
      · rfl
    · rfl
theorem loop20 {x : MX} {a b : OV} {h : Int} {e : Bool} {v0 : VF} {ρ0 : Nat → PB} {W0 : World} (hA : capOk x a.P a.n) (hB : capOk x b.P b.n) (hv0 : ∀ j, DeadV (v0 j)) : StepW Try.prog none (z20 x a b) ρ0 W0 (.loop l20) (s20a x a b h e 0 v0) fun ex s => ex = .exit 1 ∧ ((accM x a b a.n = [] ∧ ∃ v, (∀ j, DeadV (v j)) ∧ s = s20a x a b h e a.n v) ∨ (0 < (accM x a b a.n).length ∧ ∃ v, (∀ j, DeadV (v j)) ∧ s = s20b x a b h e (accM x a b a.n) (accM x a b a.n).length (accM x a b a.n).length a.n v)) := by
  obtain ⟨p1, p2, p3⟩ := hA
  refine runLoopW (id := 1) (N := a.n) (I := fun i s => (accM x a b i = [] ∧ ∃ v, (∀ j, DeadV (v j)) ∧ s = s20a x a b h e i v) ∨ (0 < (accM x a b i).length ∧ ∃ v, (∀ j, DeadV (v j)) ∧ s = s20b x a b h e (accM x a b i) (accM x a b i).length (accM x a b i).length i v)) ?_ ?_ (.inl ⟨rfl, v0, hv0, rfl⟩)
  · intro i s hi hI
    have e2 := ix2_eq i
    have c1 : decide (nI i < nI a.n) = true := decide_eq_true (by unfold nI; omega)
    have c2 : 0 ≤ nI i ∧ nI i < nI a.n := by unfold nI; omega
    have c3 : (0 + i * 2) % 2 = 0 ∧ (0 + i * 2) / 2 < x.CN a.P := by omega
    have cw : IntKind.i64.wrap (nI i + 1) = nI i + 1 := by rw [IntKind.wrap_i64]; unfold nI; omega
    have hl := accM_len x a b i
    have ha : accM x a b (i + 1) = accM x a b i ++ (bif hasE x b (x.CK a.P i) then [x.CK a.P i] else []) := rfl
    cases hh : hasE x b (x.CK a.P i) with
    | false =>
      have hh2 : hasE x b (x.CK a.P (ix2 i)) = false := by rw [e2]; exact hh
      have ha2 : accM x a b (i + 1) = accM x a b i := by rw [ha, hh]; exact List.append_nil _
      rcases hI with ⟨h0, v, hv, rfl⟩ | ⟨h0, v, hv, rfl⟩
      · refine ((StepG.stdT (s0 := z20 x a b) (rd := none) pg (K40_ok x b) (k20AS x a b h e i v) ⟨⟨⟨⟨⟨⟨trivial, c1⟩, c2⟩, c3⟩, rfl, hB, rfl⟩, hh2⟩, cw⟩ (show 1 ≤ 5 by decide) (tm20a_dead (VS20_dead hv) lvS20) (h20a_ok x a b h e) rfl (ok20AS x x a b h e i v)).at ρ0 W0).mono ?_
        rintro ex s ⟨rfl, rfl⟩
        exact ⟨rfl, .inl ⟨by rw [ha2]; exact h0, VS20 v, VS20_dead hv, rfl⟩⟩
      · refine ((StepG.stdT (s0 := z20 x a b) (rd := none) pg (K40_ok x b) (k20BS x a b h e _ _ _ i v) ⟨⟨⟨⟨⟨⟨trivial, c1⟩, c2⟩, c3⟩, rfl, hB, rfl⟩, hh2⟩, cw⟩ (show 1 ≤ 6 by decide) (tm20a_dead (VS20_dead hv) lvS20) (h20b_ok x a b h e _ _ _) rfl (ok20BS x x a b h e _ _ _ i v)).at ρ0 W0).mono ?_
        rintro ex s ⟨rfl, rfl⟩
        exact ⟨rfl, .inr ⟨by rw [ha2]; exact h0, VS20 v, VS20_dead hv, by rw [ha2]⟩⟩
    | true =>
      have hh2 : hasE x b (x.CK a.P (ix2 i)) = true := by rw [e2]; exact hh
      have ha2 : accM x a b (i + 1) = accM x a b i ++ [x.CK a.P i] := by rw [ha, hh]; rfl
      rcases hI with ⟨h0, v, hv, rfl⟩ | ⟨h0, v, hv, rfl⟩
      · refine StepW.turn ((StepG.stdT (s0 := z20 x a b) (rd := none) pg (K40_ok x b) (k20AH x a b h e i v) ⟨⟨⟨⟨⟨⟨trivial, c1⟩, c2⟩, c3⟩, rfl, hB, rfl⟩, hh2⟩, cw⟩ (show 1 ≤ 5 by decide) (tm20a_dead (VH20_dead hv) lvH20) (h20c_ok x a b h e _) rfl (ok20AH x x a b h e i v)).at ρ0 W0) ?_
        rintro ex s w a' ⟨rfl, rfl⟩ hs0 hp
        have hp2 := hp.sub (sub20 x a b h e _ (i + 1) (VH20 v)) rfl rfl fun j hj hm => (by
          show (Tr.rebuild _ _).get j = (Tr.rebuild _ _).get j
          rw [Tr.get_rebuild _ _ _ (by decide), Tr.get_rebuild _ _ _ (by decide)]
          have hj1 : j < 1 := by
            unfold St.may at hm
            simp only [Bool.and_eq_false_iff, decide_eq_false_iff_not, Bool.not_eq_false'] at hm
            rcases hm with hm | hm
            · have : ¬ 1 ≤ j := hm
              omega
            · simp [z20, smSt] at hm
          omega)
        refine ⟨_, ⟨rfl, .inr ⟨?_, VH20 v, VH20_dead hv, ?_⟩⟩, hp2⟩
        · rw [ha2, h0]; exact Nat.zero_lt_one
        · rw [ha2, h0, e2]; rfl
      · refine ((StepG.stdT (s0 := z20 x a b) (rd := none) pg (K40_ok x b) (k20BH x a b h e _ _ _ i v) ⟨⟨⟨⟨⟨⟨⟨⟨trivial, c1⟩, c2⟩, c3⟩, rfl, hB, rfl⟩, hh2⟩, decide_eq_false (by omega)⟩, by rw [Nat.zero_add]; exact ⟨Nat.le_refl _, by omega, by unfold mostBytes; omega, by unfold mostBytes; omega⟩⟩, cw⟩ (show 1 ≤ 6 by decide) (tm20a_dead (VH20_dead hv) lvH20) (h20b_ok x a b h e _ _ _) rfl (ok20BH x x a b h e _ _ (accM x a b i).length i v)).at ρ0 W0).mono ?_
        rintro ex s ⟨rfl, rfl⟩
        refine ⟨rfl, .inr ⟨by rw [ha2, List.length_append]; omega, VH20 v, VH20_dead hv, ?_⟩⟩
        rw [ha2, List.length_append, List.drop_zero, List.take_of_length_le (Nat.le_refl _), e2]; rfl
  · rintro s (⟨h0, v, hv, rfl⟩ | ⟨h0, v, hv, rfl⟩)
    · refine ((StepG.stdT (s0 := z20 x a b) (rd := none) pg KN_ok (k20AX x a b h e a.n v) ⟨trivial, decide_eq_false (by omega)⟩ (show 1 ≤ 5 by decide) (tm20a_dead (VX20_dead hv) lvX20) (h20a_ok x a b h e) rfl (ok20AX x x a b h e a.n v)).at ρ0 W0).mono ?_
      rintro ex s ⟨rfl, rfl⟩
      exact ⟨rfl, .inl ⟨h0, VX20 v, VX20_dead hv, rfl⟩⟩
    · refine ((StepG.stdT (s0 := z20 x a b) (rd := none) pg KN_ok (k20BX x a b h e _ _ _ a.n v) ⟨trivial, decide_eq_false (by omega)⟩ (show 1 ≤ 6 by decide) (tm20a_dead (VX20_dead hv) lvX20) (h20b_ok x a b h e _ _ _) rfl (ok20BX x x a b h e _ _ _ a.n v)).at ρ0 W0).mono ?_
      rintro ex s ⟨rfl, rfl⟩
      exact ⟨rfl, .inr ⟨h0, VX20 v, VX20_dead hv, rfl⟩⟩
def Q20 (x : MX) (a b : OV) (W0 : World) : Exit → St → Prop := fun e s' => leaves? e = true ∧ s'.defers = [] ∧ ∃ F' q, s'.heap.get 0 = some (.fam F') ∧ Fresh W0 x.F F' ∧ results1 Try.prog s' [.cell 4 45, .tmp 5] = some q ∧ q.2.obl ∧ farW (oneOf q.1) = true ∧ MeetR x a b F' (oneOf q.1)
theorem end20 {x : MX} {a b : OV} {v0 : VF} {ρ0 : Nat → PB} {W0 : World} (hA : capOk x a.P a.n) (hB : capOk x b.P b.n) (hv0 : ∀ j, DeadV (v0 j)) (h0 : errE x a b = 0) {h : Int} (hh : lessH a b = h) : StepW Try.prog none (z20 x a b) ρ0 W0 (.loop l20) (s20a x a b h (a.asn == b.asn) 0 v0) fun e s => (fun e s => (e = .normal ∧ StepW Try.prog none (z20 x a b) ρ0 W0 e20 s (Q20 x a b W0)) ∨ (e ≠ .normal ∧ Q20 x a b W0 e s)) (blockOut 1 e) s := by
  refine (loop20 hA hB hv0).mono ?_
  subst hh
  rintro e s ⟨rfl, ⟨hl, v, hv, rfl⟩ | ⟨hl, v, hv, rfl⟩⟩
  · refine .inl ⟨rfl, ?_⟩
    refine ((StepG.stdT (s0 := z20 x a b) (rd := none) pg KN_ok (k20AE x a b _ _ a.n v) trivial (show 1 ≤ 5 by decide) (tm20e_dead (VE20_dead hv) lvE20) (h20n_ok x a b _ _) rfl (ok20AE x x a b _ _ a.n v)).at ρ0 W0).mono ?_
    rintro e s ⟨rfl, rfl⟩
    have h2 := res20n x a b (lessH a b) (a.asn == b.asn) (VE20 v)
    cases hq : results1 Try.prog (s20n x a b (lessH a b) (a.asn == b.asn) (VE20 v)) [.cell 4 45, .tmp 5] with
    | none => rw [hq] at h2; cases h2
    | some q =>
    rw [hq] at h2
    simp only [Option.map_some, Option.some.injEq, Prod.mk.injEq] at h2
    refine ⟨rfl, rfl, _, q, g20n0 x a b _ _ _, Fresh.refl _ _, hq, by rw [h2.2]; trivial, by rw [h2.1]; rfl, _, by rw [h2.1, h0]; rfl, fun hne => absurd h0 hne, fun _ => .inl ⟨hl, rfl, rfl⟩⟩
  · refine .inl ⟨rfl, ?_⟩
    refine StepW.turn ((StepG.stdT (s0 := z20 x a b) (rd := none) pg KN_ok (k20BE x a b _ _ _ _ _ a.n v) trivial (show 1 ≤ 6 by decide) (tm20e_dead (VE20_dead hv) lvE20) (h20r_ok x a b _ _ _ _ _) rfl (ok20BE x x a b _ _ _ _ _ a.n v)).at ρ0 W0) ?_
    rintro e s w a' ⟨rfl, rfl⟩ hs0 hp
    obtain ⟨P, c', hc, hP, hk, hp2⟩ := PicG.takeS (sg := 1000) (i := 2) (p := fun g => Nat.beq g 1000) (c := .ints .u8 (accM x a b a.n)) (fun P c' => s20t (x.wD (updF x.D P (accM x a b a.n))) a b (lessH a b) (a.asn == b.asn) P (accM x a b a.n).length c' (VE20 v)) hp (b := 4) (m := 3) (F := x.F) (g20r0 x a b _ _ _ _ _ _) (g20r4 x a b _ _ _ _ _ _) ints_fam (g20r3 x a b _ _ _ _ _ _) rfl (by decide) (by decide) (by decide) rfl rfl rfl rfl (z20_base x a b) (fun P c' => took20 x a b _ _ _ _ _ P c' _)
    rw [← putB_F] at hk
    have h2 := res20t (x.wD (updF x.D P (accM x a b a.n))) a b (lessH a b) (a.asn == b.asn) P (accM x a b a.n).length c' (VE20 v)
    cases hq : results1 Try.prog (s20t (x.wD (updF x.D P (accM x a b a.n))) a b (lessH a b) (a.asn == b.asn) P (accM x a b a.n).length c' (VE20 v)) [.cell 4 45, .tmp 5] with
    | none => rw [hq] at h2; cases h2
    | some q =>
    rw [hq] at h2
    simp only [Option.map_some, Option.some.injEq, Prod.mk.injEq] at h2
    refine ⟨_, ⟨rfl, rfl, _, q, g20t0 _ a b _ _ _ _ _ _, ?_, hq, by rw [h2.2]; trivial, by rw [h2.1]; rfl, _, by rw [h2.1, h0]; rfl, fun hne => absurd h0 hne, fun _ => .inr ⟨hl, _, P, c', rfl, rfl, hk, updF_at _ _ _⟩⟩, hp2⟩
    rw [putB_F]; exact (Fresh.refl _ _).put hP
theorem meet20 {x : MX} {a b : OV} (hA : capOk x a.P a.n) (hB : capOk x b.P b.n) : MkOk Try.prog x.F 20 [a.v, b.v] (MeetR x a b) := by
  refine mk_fn (s0 := z20 x a b) rfl fn20 fun ρ0 W0 => ?_
  have early : ∀ {n : Int}, errE x a b = n → n ≠ 0 → ∀ {F' : Nat → Nat → Cells} {v : Value}, F' = x.F → v = .tuple #[.agg #[.int .u16 0, .bool false, .slice none 0 0], .int .i64 n] → MeetR x a b F' v := fun {n} hn hne {F' v} hF hv => ⟨_, by rw [hn]; exact hv, fun _ => .inl ⟨rfl, hF, rfl⟩, fun h => absurd (hn ▸ h) hne⟩
  cases h1 : (check15 x a == 2) with
  | true =>
    refine ((StepG.ranM (s0 := z20 x a b) (rd := none) pg (KT15_ok x) (k20e0 x a b) ⟨⟨⟨trivial, rfl, hA⟩, rfl, hB⟩, h1⟩ (show 1 ≤ 1 by decide)).at ρ0 W0).mono ?_
    rintro e s ⟨rfl, h5, h6, q, h7, h8, h9⟩
    exact ⟨rfl, h5, _, q, h6, Fresh.refl _ _, h7, h8, by rw [h9]; rfl, early (n := 2) (by unfold errE; rw [h1]; rfl) (by decide) rfl h9⟩
  | false =>
  cases h2 : (check15 x b == 2) with
  | true =>
    refine ((StepG.ranM (s0 := z20 x a b) (rd := none) pg (KT15_ok x) (k20e1 x a b) ⟨⟨⟨⟨trivial, rfl, hA⟩, rfl, hB⟩, h1⟩, h2⟩ (show 1 ≤ 1 by decide)).at ρ0 W0).mono ?_
    rintro e s ⟨rfl, h5, h6, q, h7, h8, h9⟩
    exact ⟨rfl, h5, _, q, h6, Fresh.refl _ _, h7, h8, by rw [h9]; rfl, early (n := 2) (by unfold errE; rw [h1, h2]; rfl) (by decide) rfl h9⟩
  | false =>
  cases h3 : (check15 x a != 0) with
  | true =>
    refine ((StepG.ranM (s0 := z20 x a b) (rd := none) pg (KT15_ok x) (k20e2 x a b) ⟨⟨⟨⟨⟨trivial, rfl, hA⟩, rfl, hB⟩, h1⟩, h2⟩, h3⟩ (show 1 ≤ 1 by decide)).at ρ0 W0).mono ?_
    rintro e s ⟨rfl, h5, h6, q, h7, h8, h9⟩
    exact ⟨rfl, h5, _, q, h6, Fresh.refl _ _, h7, h8, by rw [h9]; rfl, early (n := 3) (by unfold errE; rw [h1, h2, h3]; rfl) (by decide) rfl h9⟩
  | false =>
  cases h4 : (check15 x b != 0) with
  | true =>
    refine ((StepG.ranM (s0 := z20 x a b) (rd := none) pg (KT15_ok x) (k20e3 x a b) ⟨⟨⟨⟨⟨⟨trivial, rfl, hA⟩, rfl, hB⟩, h1⟩, h2⟩, h3⟩, h4⟩ (show 1 ≤ 1 by decide)).at ρ0 W0).mono ?_
    rintro e s ⟨rfl, h5, h6, q, h7, h8, h9⟩
    exact ⟨rfl, h5, _, q, h6, Fresh.refl _ _, h7, h8, by rw [h9]; rfl, early (n := 3) (by unfold errE; rw [h1, h2, h3, h4]; rfl) (by decide) rfl h9⟩
  | false =>
  have h0 : errE x a b = 0 := by unfold errE; rw [h1, h2, h3, h4]; rfl
  show StepW Try.prog none (z20 x a b) ρ0 W0 b20 (z20 x a b) (Q20 x a b W0)
  cases hc : decide (b.hold < a.hold) with
  | true =>
    refine StepW.downs pg (KT15_ok x) (k20D1 x a b) ⟨⟨⟨⟨⟨⟨⟨trivial, rfl, hA⟩, rfl, hB⟩, h1⟩, h2⟩, h3⟩, h4⟩, hc⟩ (tm20a_dead (VD20_dead vU_dead) lvD20) (h20a_ok x a b _ _) rfl (ok20D x x a b _ _ 0 vU) ?_
    rw [up20]
    exact end20 hA hB (VD20_dead vU_dead) h0 (by unfold lessH; rw [hc]; rfl)
  | false =>
    refine StepW.downs pg (KT15_ok x) (k20D2 x a b) ⟨⟨⟨⟨⟨⟨⟨trivial, rfl, hA⟩, rfl, hB⟩, h1⟩, h2⟩, h3⟩, h4⟩, hc⟩ (tm20a_dead (VD20_dead vU_dead) lvD20) (h20a_ok x a b _ _) rfl (ok20D x x a b _ _ 0 vU) ?_
    rw [up20]
    exact end20 hA hB (VD20_dead vU_dead) h0 (by unfold lessH; rw [hc]; rfl)
end
end ob
end Go.Proofs.Ytpfmilkddapfiaa
