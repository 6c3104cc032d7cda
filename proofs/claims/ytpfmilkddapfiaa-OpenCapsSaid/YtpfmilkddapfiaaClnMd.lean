/- Read off the code by the clean reading. -/
import Derived.Test.YtpfmilkddapfiaaClnMc
set_option linter.unusedVariables false
set_option linter.unusedSimpArgs false
set_option linter.deprecated false
set_option maxRecDepth 100000
namespace Go.Proofs.Ytpfmilkddapfiaa
open Go.ChangeShapes Go.WideShapes Go.ChangeAt Go.RowKit Go.Cln
namespace ob
set_option linter.unusedVariables false
noncomputable section
def b6 : Code := ((Try.prog.funcs[6]?).bind (·.body)).getD .skip
theorem fn6 : (Try.prog.funcs[6]?).map (fun f => (f.body, f.results.toList, f.ntmps)) = some (some b6, [.tmp 6], 113) := by kernel_rfl
def e6 : Code := sndC (sndC b6)
def o6 : Array Oper := opsC (fstC e6)
def x6 : Code := sndC e6
def r4c : Code := fstC x6
def o4 : Array Oper := opsC r4c
def x7 : Code := sndC x6
def x9 : Code := sndC (sndC x7)
def x11 : Code := sndC (sndC x9)
theorem e6_eq : e6 = .seq (.region 3 o6 false) x6 := by kernel_rfl
theorem x6_eq : x6 = .seq r4c x7 := by kernel_rfl
theorem r4_eq : r4c = .region 4 o4 false := by kernel_rfl
theorem o6_eq : List.range o6.size = [0] ++ (1 :: ([2, 3] ++ [])) := by kernel_rfl
theorem o4_eq : List.range o4.size = [0, 1] ++ (2 :: ([3, 4, 5, 6, 7] ++ [])) := by kernel_rfl
def m6 : Code := loopB Try.prog 6 0
def m6b : Code := loopB Try.prog 6 1
noncomputable def z6l (x : MX) (a b : OV) (w : Int) : St := { smSt 1 [some (.fam x.F)] [] with tmps := [a.v, b.v, .int .u8 w] ++ List.replicate 110 undef, defers := [] }
noncomputable def go6 (K : Given) (c : Code) (s : St) (o : List (Option Bool)) : Option (Exit × St) := (mk Try.prog K 300).code 6 none c { s with obl := True, orc := o }
noncomputable def gd6 (K : Given) (l : List Nat) (c : Code) (s : St) (o : List (Option Bool)) : Option (St × Code) := down (mk Try.prog K 300) 6 none l c { s with obl := True, orc := o }
noncomputable def h6a (x : MX) (a b : OV) : Nat → Option Ob := fun j => match j with
  | 0 => some (.fam x.F)
  | 1 => some (.cells (.lit a.l) 26)
  | 2 => some (.cells (.lit b.l) 26)
  | _ => none
theorem h6a_ok (x : MX) (a b : OV) : Go.Cln.RowsIn (h6a x a b) := by
  intro b' n' w' g' t h
  unfold h6a at h
  split at h <;> cases h
noncomputable def q6a (x : MX) (a b : OV) (l : List Value) : St := ⟨l, [], Tr.rebuild (h6a x a b) 3, 3, 1, [], fun _ => false, True, []⟩
noncomputable def h6c (x : MX) (a b d : OV) : Nat → Option Ob := fun j => match j with
  | 0 => some (.fam x.F)
  | 1 => some (.cells (.lit a.l) 26)
  | 2 => some (.cells (.lit b.l) 26)
  | 3 => some (.cells (.lit d.l) 26)
  | _ => none
theorem h6c_ok (x : MX) (a b d : OV) : Go.Cln.RowsIn (h6c x a b d) := by
  intro b' n' w' g' t h
  unfold h6c at h
  split at h <;> cases h
noncomputable def q6c (x : MX) (a b d : OV) (l : List Value) : St := ⟨l, [], Tr.rebuild (h6c x a b d) 4, 4, 1, [], fun _ => false, True, []⟩
noncomputable def h6s (x : MX) (a b d : OV) (M : List Int) : Nat → Option Ob := fun j => match j with
  | 0 => some (.fam x.F)
  | 1 => some (.cells (.lit a.l) 26)
  | 2 => some (.cells (.lit b.l) 26)
  | 3 => some (.cells (.lit d.l) 26)
  | 4 => some (.cells (.ints .u8 M) 5)
  | _ => none
theorem h6s_ok (x : MX) (a b d : OV) (M : List Int) : Go.Cln.RowsIn (h6s x a b d M) := by
  intro b' n' w' g' t h
  unfold h6s at h
  split at h <;> cases h
noncomputable def q6s (x : MX) (a b d : OV) (M : List Int) (l : List Value) : St := ⟨l, [], Tr.rebuild (h6s x a b d M) 5, 5, 1, [], fun _ => false, True, []⟩
noncomputable def w0 (a b : OV) (w : Int) : List Value := [a.v, b.v, .int .u8 w, .pointer (some ⟨1, 0, none⟩), .pointer (some ⟨2, 0, none⟩), undef, junk, undef, undef, undef, undef, undef, undef, .agg #[junk, junk, junk, junk], junk, junk, junk, .agg #[junk, junk, junk, junk], junk, junk, junk, undef, undef, undef, undef, undef, undef, undef, undef, undef, undef, undef, undef, undef, undef, undef, undef, undef, undef, undef, undef, undef, undef, undef, undef, undef, undef, undef, undef, undef, undef, undef, undef, undef, undef, undef, undef, undef, undef, undef, undef, undef, undef, undef, undef, undef, undef, undef, undef, undef, undef, undef, undef, undef, undef, undef, undef, undef, undef, undef, undef, undef, undef, undef, undef, undef, undef, undef, undef, undef, undef, undef, undef, undef, undef, undef, undef, undef, undef, undef, undef, undef, undef, undef, undef, undef, undef, undef, undef, undef, undef, undef, undef]
noncomputable def w1 (a b : OV) (w : Int) : List Value := [a.v, b.v, .int .u8 w, .pointer (some ⟨1, 0, none⟩), .pointer (some ⟨2, 0, none⟩), undef, junk, undef, undef, undef, undef, undef, undef, .agg #[junk, junk, junk, junk], junk, junk, junk, .agg #[junk, junk, junk, junk], junk, junk, junk, undef, a.v, undef, undef, undef, undef, undef, undef, undef, undef, undef, undef, undef, undef, undef, undef, undef, undef, undef, undef, undef, undef, undef, undef, undef, undef, undef, undef, undef, undef, undef, undef, undef, undef, undef, undef, undef, undef, undef, undef, undef, undef, undef, undef, undef, undef, undef, undef, undef, undef, undef, undef, undef, undef, undef, undef, undef, undef, undef, undef, undef, undef, undef, undef, undef, undef, undef, undef, undef, undef, undef, undef, undef, undef, undef, undef, undef, undef, undef, undef, undef, undef, undef, undef, undef, undef, undef, undef, undef, undef, undef, undef]
noncomputable def w2 (a b d : OV) (w : Int) : List Value := [a.v, b.v, .int .u8 w, .pointer (some ⟨1, 0, none⟩), .pointer (some ⟨2, 0, none⟩), undef, junk, undef, undef, undef, undef, undef, undef, .agg #[junk, junk, junk, junk], junk, junk, junk, .agg #[junk, junk, junk, junk], junk, junk, junk, undef, a.v, d.v, undef, undef, undef, undef, undef, undef, undef, undef, undef, undef, undef, undef, undef, undef, undef, undef, undef, undef, undef, undef, undef, undef, undef, undef, undef, undef, undef, undef, undef, undef, undef, undef, undef, undef, undef, undef, undef, undef, undef, undef, undef, undef, undef, undef, undef, undef, undef, undef, undef, undef, undef, undef, undef, undef, undef, undef, undef, undef, undef, undef, undef, undef, undef, undef, undef, undef, undef, undef, undef, undef, undef, undef, undef, undef, undef, undef, undef, undef, undef, undef, undef, undef, undef, undef, undef, undef, undef, undef, undef]
noncomputable def w3 (a b : OV) (w : Int) : List Value := [a.v, b.v, .int .u8 w, .pointer (some ⟨1, 0, none⟩), .pointer (some ⟨2, 0, none⟩), undef, junk, .pointer (some ⟨3, 0, none⟩), undef, undef, undef, undef, undef, .agg #[junk, junk, junk, junk], junk, junk, junk, .agg #[junk, junk, junk, junk], junk, junk, junk, undef, .agg #[junk, junk, junk, junk], .agg #[junk, junk, junk, junk], undef, undef, undef, undef, undef, undef, undef, undef, undef, undef, undef, undef, undef, undef, undef, undef, undef, undef, undef, undef, undef, undef, undef, undef, undef, undef, undef, undef, undef, undef, undef, undef, undef, undef, undef, undef, undef, undef, undef, undef, undef, undef, undef, undef, undef, undef, undef, undef, undef, undef, undef, undef, undef, undef, undef, undef, undef, undef, undef, undef, undef, undef, undef, undef, undef, undef, undef, undef, undef, undef, undef, undef, undef, undef, undef, undef, undef, undef, undef, undef, undef, undef, undef, undef, undef, undef, undef, undef, undef]
theorem gq6a (x : MX) (a b : OV) (l : List Value) : (q6a x a b l).heap.get 0 = some (.fam x.F) := by
  unfold q6a
  rw [Tr.get_rebuild _ _ _ (by omega), if_pos (by omega)]; rfl
theorem gq6c (x : MX) (a b d : OV) (l : List Value) : (q6c x a b d l).heap.get 0 = some (.fam x.F) := by
  unfold q6c
  rw [Tr.get_rebuild _ _ _ (by omega), if_pos (by omega)]; rfl
def as6 (x : MX) (a : OV) : Prop := x.F = x.F ∧ a.n ≤ x.CN a.P ∧ a.n ≤ 9223372036854775807
theorem k6o0 (x : MX) (a b : OV) (w : Int) : ((mk Try.prog (KA x) 300).call 6 [a.v, b.v, .int .u8 w] (smSt 1 [some (.fam x.F)] [some true])).map (fun r => (r.1, r.2.obl)) = some (.bool true, ((True ∧ as6 x a) ∧ (!fewE x a) = true) ∧ (x.F = x.F ∧ True)) := by kernel_rfl
theorem k6o1 (x : MX) (a b : OV) (w : Int) : ((mk Try.prog (KA x) 300).call 6 [a.v, b.v, .int .u8 w] (smSt 1 [some (.fam x.F)] [some false, none, none, none, some true])).map (fun r => (r.1, r.2.obl)) = some (.bool true, ((((True ∧ as6 x a) ∧ (!fewE x a) = false) ∧ as6 x b) ∧ (!fewE x b) = true) ∧ (x.F = x.F ∧ True)) := by kernel_rfl
theorem k6d (x : MX) (a b : OV) (w : Int) : (gd6 (KA x) [2, 2] b6 (z6l x a b w) [some false, none, none, none, some false]).map (fun r => (r.2, r.1.obl, seenInT allT r.1 (q6a x a b (w0 a b w)) [0, 1, 2])) = some (e6, (((True ∧ as6 x a) ∧ (!fewE x a) = false) ∧ as6 x b) ∧ (!fewE x b) = false, seenAsT allT (q6a x a b (w0 a b w)) [0, 1, 2] 3) := by kernel_rfl
theorem up6d (x : MX) (a b : OV) (w : Int) (ρ0 : Nat → PB) (W0 : World) (Q_ : Exit → St → Prop) : upW Try.prog none (z6l x a b w) ρ0 W0 [2, 2] b6 Q_ = Q_ := by kernel_rfl
theorem k6r0 (x : MX) (a b : OV) (w : Int) : (runSeq Try.prog KN (mk Try.prog KN 200) o6 [0] { q6a x a b (w0 a b w) with obl := True, orc := [] }).map (fun r => (r.obl, seenInT allT r (q6a x a b (w1 a b w)) [0, 1, 2])) = some (True, seenAsT allT (q6a x a b (w1 a b w)) [0, 1, 2] 3) := by kernel_rfl
theorem k6r1 (x : MX) (a b d : OV) (w : Int) : (runSeq Try.prog KN (mk Try.prog KN 200) o6 [2, 3] { q6a x a b (w2 a b d w) with obl := True, orc := [] }).map (fun r => (r.obl, seenInT allT r (q6c x a b d (w3 a b w)) [0, 1, 2, 3])) = some (True, seenAsT allT (q6c x a b d (w3 a b w)) [0, 1, 2, 3] 4) := by kernel_rfl
theorem ok6d (x : MX) (a b : OV) (w : Int) : picOkT allT (z6l x a b w) (q6a x a b (w0 a b w)) [0, 1, 2] = true := by kernel_rfl
theorem ok6r0 (x : MX) (a b : OV) (w : Int) : picOkT allT (z6l x a b w) (q6a x a b (w1 a b w)) [0, 1, 2] = true := by kernel_rfl
theorem ok6r1 (x y : MX) (a b d : OV) (w : Int) : picOkT allT (z6l x a b w) (q6c y a b d (w3 a b w)) [0, 1, 2, 3] = true := by kernel_rfl
theorem set6 (x : MX) (a b d : OV) (w : Int) : ((q6a x a b (w1 a b w)).set (some 23) d.v).tmps = w2 a b d w := by kernel_rfl
end
end ob
end Go.Proofs.Ytpfmilkddapfiaa
namespace Go.Proofs.Ytpfmilkddapfiaa
open Go.ChangeShapes Go.WideShapes Go.ChangeAt Go.RowKit Go.Cln
namespace ob
set_option linter.unusedVariables false
noncomputable section
noncomputable def tmDN (v : VF) (a b d : OV) (w : Int) (i : Nat) : List Value := (a.v :: b.v :: .int .u8 w :: .pointer (some ⟨1, 0, none⟩) :: .pointer (some ⟨2, 0, none⟩) :: v 5 :: v 6 :: .pointer (some ⟨3, 0, none⟩) :: .slice none 0 0 :: .bool false :: .int .i64 (-1) :: .int .i64 (nI i) :: vs v 12 101 [])
theorem tmDN_dead {v : VF} {a b d : OV} {w : Int} {i : Nat} {B : Nat → Bool} (h : ∀ i, DeadV (v i)) (hB : ∀ i, ((Nat.ble 0 i && Nat.ble i 4) || (Nat.ble 7 i && Nat.ble i 11)) = true → B i = true) : deadT B 0 (tmDN v a b d w i) :=
  ⟨fun e => absurd e (by rw [hB 0 rfl]; decide), ⟨fun e => absurd e (by rw [hB 1 rfl]; decide), ⟨fun e => absurd e (by rw [hB 2 rfl]; decide), ⟨fun e => absurd e (by rw [hB 3 rfl]; decide), ⟨fun e => absurd e (by rw [hB 4 rfl]; decide), ⟨fun _ => h 5, ⟨fun _ => h 6, ⟨fun e => absurd e (by rw [hB 7 rfl]; decide), ⟨fun e => absurd e (by rw [hB 8 rfl]; decide), ⟨fun e => absurd e (by rw [hB 9 rfl]; decide), ⟨fun e => absurd e (by rw [hB 10 rfl]; decide), ⟨fun e => absurd e (by rw [hB 11 rfl]; decide), deadT_vs h 101 (trivial)⟩⟩⟩⟩⟩⟩⟩⟩⟩⟩⟩⟩
def WDN (i : Nat) : Bool := Nat.beq i 6 || (Nat.ble 14 i && Nat.ble i 16) || (Nat.ble 18 i && Nat.ble i 20) || Nat.beq i 26 || (Nat.ble 28 i && Nat.ble i 29)
noncomputable def VDN (v : VF) : VF := fun i => match Nat.beq i 13 with
  | true => .agg #[junk, junk, junk, junk]
  | false => match Nat.beq i 17 with
  | true => .agg #[junk, junk, junk, junk]
  | false => match Nat.beq i 22 with
  | true => .agg #[junk, junk, junk, junk]
  | false => match Nat.beq i 23 with
  | true => .agg #[junk, junk, junk, junk]
  | false => match Nat.beq i 25 with
  | true => .agg #[junk, junk, junk, junk]
  | false => match Nat.beq i 24 with
  | true => .tuple #[junk, junk]
  | false => match Nat.beq i 27 with
  | true => .tuple #[junk, junk]
  | false => match WDN i with
  | true => junk
  | false => v i
def BDN (i : Nat) : Bool := ((Nat.ble 0 i && Nat.ble i 4) || (Nat.ble 7 i && Nat.ble i 11)) || WDN i || Nat.beq i 13 || Nat.beq i 17 || Nat.beq i 22 || Nat.beq i 23 || Nat.beq i 25 || Nat.beq i 24 || Nat.beq i 27
theorem VDN_dead {v : VF} (h : ∀ i, DeadV (v i)) (i : Nat) : DeadV (VDN v i) := by
  unfold VDN
  split
  · exact ⟨rfl, fun _ => rfl, fun _ => rfl⟩
  split
  · exact ⟨rfl, fun _ => rfl, fun _ => rfl⟩
  split
  · exact ⟨rfl, fun _ => rfl, fun _ => rfl⟩
  split
  · exact ⟨rfl, fun _ => rfl, fun _ => rfl⟩
  split
  · exact ⟨rfl, fun _ => rfl, fun _ => rfl⟩
  split
  · exact ⟨rfl, fun _ => rfl, fun _ => rfl⟩
  split
  · exact ⟨rfl, fun _ => rfl, fun _ => rfl⟩
  split
  · exact DeadV.junk
  · exact h i
theorem lvDN (i : Nat) (h : ((Nat.ble 0 i && Nat.ble i 4) || (Nat.ble 7 i && Nat.ble i 11)) = true) : BDN i = true := by
  unfold BDN
  simp only [Bool.or_eq_true] at h ⊢
  refine .inl ?_
  refine .inl ?_
  refine .inl ?_
  refine .inl ?_
  refine .inl ?_
  refine .inl ?_
  refine .inl ?_
  exact .inl h
def WRN (i : Nat) : Bool := (Nat.ble 30 i && Nat.ble i 48)
noncomputable def VRN (v : VF) : VF := fun i => match WRN i with
  | true => junk
  | false => v i
def BRN (i : Nat) : Bool := ((Nat.ble 0 i && Nat.ble i 4) || (Nat.ble 7 i && Nat.ble i 11)) || WRN i
theorem VRN_dead {v : VF} (h : ∀ i, DeadV (v i)) (i : Nat) : DeadV (VRN v i) := by
  unfold VRN
  split
  · exact DeadV.junk
  · exact h i
theorem lvRN (i : Nat) (h : ((Nat.ble 0 i && Nat.ble i 4) || (Nat.ble 7 i && Nat.ble i 11)) = true) : BRN i = true := by
  unfold BRN
  simp only [Bool.or_eq_true] at h ⊢
  exact .inl h
def WXN (i : Nat) : Bool := (Nat.ble 30 i && Nat.ble i 35) || Nat.beq i 38
noncomputable def VXN (v : VF) : VF := fun i => match Nat.beq i 36 with
  | true => undef
  | false => match Nat.beq i 37 with
  | true => undef
  | false => match WXN i with
  | true => junk
  | false => v i
def BXN (i : Nat) : Bool := ((Nat.ble 0 i && Nat.ble i 4) || (Nat.ble 7 i && Nat.ble i 11)) || WXN i || Nat.beq i 36 || Nat.beq i 37
theorem VXN_dead {v : VF} (h : ∀ i, DeadV (v i)) (i : Nat) : DeadV (VXN v i) := by
  unfold VXN
  split
  · exact ⟨rfl, fun _ => rfl, fun _ => rfl⟩
  split
  · exact ⟨rfl, fun _ => rfl, fun _ => rfl⟩
  split
  · exact DeadV.junk
  · exact h i
theorem lvXN (i : Nat) (h : ((Nat.ble 0 i && Nat.ble i 4) || (Nat.ble 7 i && Nat.ble i 11)) = true) : BXN i = true := by
  unfold BXN
  simp only [Bool.or_eq_true] at h ⊢
  refine .inl ?_
  refine .inl ?_
  exact .inl h
noncomputable def sDN (x : MX) (a b d : OV) (w : Int) (i : Nat) (v : VF) : St := q6c x a b d (tmDN v a b d w i)
noncomputable def tmEN (v : VF) (a b d : OV) (w : Int) (j : Nat) : List Value := (a.v :: b.v :: .int .u8 w :: .pointer (some ⟨1, 0, none⟩) :: .pointer (some ⟨2, 0, none⟩) :: v 5 :: v 6 :: .pointer (some ⟨3, 0, none⟩) :: .slice none 0 0 :: .bool false :: v 10 :: v 11 :: .int .i64 (nI j) :: vs v 13 100 [])
theorem tmEN_dead {v : VF} {a b d : OV} {w : Int} {j : Nat} {B : Nat → Bool} (h : ∀ i, DeadV (v i)) (hB : ∀ i, ((Nat.ble 0 i && Nat.ble i 4) || (Nat.ble 7 i && Nat.ble i 9) || Nat.beq i 12) = true → B i = true) : deadT B 0 (tmEN v a b d w j) :=
  ⟨fun e => absurd e (by rw [hB 0 rfl]; decide), ⟨fun e => absurd e (by rw [hB 1 rfl]; decide), ⟨fun e => absurd e (by rw [hB 2 rfl]; decide), ⟨fun e => absurd e (by rw [hB 3 rfl]; decide), ⟨fun e => absurd e (by rw [hB 4 rfl]; decide), ⟨fun _ => h 5, ⟨fun _ => h 6, ⟨fun e => absurd e (by rw [hB 7 rfl]; decide), ⟨fun e => absurd e (by rw [hB 8 rfl]; decide), ⟨fun e => absurd e (by rw [hB 9 rfl]; decide), ⟨fun _ => h 10, ⟨fun _ => h 11, ⟨fun e => absurd e (by rw [hB 12 rfl]; decide), deadT_vs h 100 (trivial)⟩⟩⟩⟩⟩⟩⟩⟩⟩⟩⟩⟩⟩
def WEN (i : Nat) : Bool := (Nat.ble 10 i && Nat.ble i 11) || (Nat.ble 50 i && Nat.ble i 57) || (Nat.ble 68 i && Nat.ble i 78)
noncomputable def VEN (v : VF) : VF := fun i => match Nat.beq i 58 with
  | true => undef
  | false => match Nat.beq i 59 with
  | true => undef
  | false => match Nat.beq i 60 with
  | true => undef
  | false => match Nat.beq i 61 with
  | true => undef
  | false => match Nat.beq i 62 with
  | true => undef
  | false => match Nat.beq i 63 with
  | true => undef
  | false => match Nat.beq i 64 with
  | true => undef
  | false => match Nat.beq i 65 with
  | true => undef
  | false => match Nat.beq i 66 with
  | true => undef
  | false => match Nat.beq i 67 with
  | true => undef
  | false => match WEN i with
  | true => junk
  | false => v i
def BEN (i : Nat) : Bool := ((Nat.ble 0 i && Nat.ble i 4) || (Nat.ble 7 i && Nat.ble i 9) || Nat.beq i 12) || WEN i || Nat.beq i 58 || Nat.beq i 59 || Nat.beq i 60 || Nat.beq i 61 || Nat.beq i 62 || Nat.beq i 63 || Nat.beq i 64 || Nat.beq i 65 || Nat.beq i 66 || Nat.beq i 67
theorem VEN_dead {v : VF} (h : ∀ i, DeadV (v i)) (i : Nat) : DeadV (VEN v i) := by
  unfold VEN
  split
  · exact ⟨rfl, fun _ => rfl, fun _ => rfl⟩
  split
  · exact ⟨rfl, fun _ => rfl, fun _ => rfl⟩
  split
  · exact ⟨rfl, fun _ => rfl, fun _ => rfl⟩
  split
  · exact ⟨rfl, fun _ => rfl, fun _ => rfl⟩
  split
  · exact ⟨rfl, fun _ => rfl, fun _ => rfl⟩
  split
  · exact ⟨rfl, fun _ => rfl, fun _ => rfl⟩
  split
  · exact ⟨rfl, fun _ => rfl, fun _ => rfl⟩
  split
  · exact ⟨rfl, fun _ => rfl, fun _ => rfl⟩
  split
  · exact ⟨rfl, fun _ => rfl, fun _ => rfl⟩
  split
  · exact ⟨rfl, fun _ => rfl, fun _ => rfl⟩
  split
  · exact DeadV.junk
  · exact h i
theorem lvEN (i : Nat) (h : ((Nat.ble 0 i && Nat.ble i 4) || (Nat.ble 7 i && Nat.ble i 9) || Nat.beq i 12) = true) : BEN i = true := by
  unfold BEN
  simp only [Bool.or_eq_true] at h ⊢
  refine .inl ?_
  refine .inl ?_
  refine .inl ?_
  refine .inl ?_
  refine .inl ?_
  refine .inl ?_
  refine .inl ?_
  refine .inl ?_
  refine .inl ?_
  refine .inl ?_
  exact .inl h
def WHN (i : Nat) : Bool := (Nat.ble 79 i && Nat.ble i 82)
noncomputable def VHN (v : VF) : VF := fun i => match WHN i with
  | true => junk
  | false => v i
def BHN (i : Nat) : Bool := ((Nat.ble 0 i && Nat.ble i 4) || (Nat.ble 7 i && Nat.ble i 9) || Nat.beq i 12) || WHN i
theorem VHN_dead {v : VF} (h : ∀ i, DeadV (v i)) (i : Nat) : DeadV (VHN v i) := by
  unfold VHN
  split
  · exact DeadV.junk
  · exact h i
theorem lvHN (i : Nat) (h : ((Nat.ble 0 i && Nat.ble i 4) || (Nat.ble 7 i && Nat.ble i 9) || Nat.beq i 12) = true) : BHN i = true := by
  unfold BHN
  simp only [Bool.or_eq_true] at h ⊢
  exact .inl h
noncomputable def sEN (x : MX) (a b d : OV) (w : Int) (j : Nat) (v : VF) : St := q6c x a b d (tmEN v a b d w j)
noncomputable def tmDZ (v : VF) (a b d : OV) (w : Int) (k : Nat) (i : Nat) : List Value := (a.v :: b.v :: .int .u8 w :: .pointer (some ⟨1, 0, none⟩) :: .pointer (some ⟨2, 0, none⟩) :: v 5 :: v 6 :: .pointer (some ⟨3, 0, none⟩) :: PB_ 0 0 0 :: .bool true :: .int .i64 (-1) :: .int .i64 (nI i) :: vs v 12 101 [])
theorem tmDZ_dead {v : VF} {a b d : OV} {w : Int} {k : Nat} {i : Nat} {B : Nat → Bool} (h : ∀ i, DeadV (v i)) (hB : ∀ i, ((Nat.ble 0 i && Nat.ble i 4) || (Nat.ble 7 i && Nat.ble i 11)) = true → B i = true) : deadT B 0 (tmDZ v a b d w k i) :=
  ⟨fun e => absurd e (by rw [hB 0 rfl]; decide), ⟨fun e => absurd e (by rw [hB 1 rfl]; decide), ⟨fun e => absurd e (by rw [hB 2 rfl]; decide), ⟨fun e => absurd e (by rw [hB 3 rfl]; decide), ⟨fun e => absurd e (by rw [hB 4 rfl]; decide), ⟨fun _ => h 5, ⟨fun _ => h 6, ⟨fun e => absurd e (by rw [hB 7 rfl]; decide), ⟨fun e => absurd e (by rw [hB 8 rfl]; decide), ⟨fun e => absurd e (by rw [hB 9 rfl]; decide), ⟨fun e => absurd e (by rw [hB 10 rfl]; decide), ⟨fun e => absurd e (by rw [hB 11 rfl]; decide), deadT_vs h 101 (trivial)⟩⟩⟩⟩⟩⟩⟩⟩⟩⟩⟩⟩
def WDZ (i : Nat) : Bool := Nat.beq i 6 || (Nat.ble 14 i && Nat.ble i 16) || (Nat.ble 18 i && Nat.ble i 20) || Nat.beq i 26 || (Nat.ble 28 i && Nat.ble i 29)
noncomputable def VDZ (v : VF) : VF := fun i => match Nat.beq i 13 with
  | true => .agg #[junk, junk, junk, junk]
  | false => match Nat.beq i 17 with
  | true => .agg #[junk, junk, junk, junk]
  | false => match Nat.beq i 22 with
  | true => .agg #[junk, junk, junk, junk]
  | false => match Nat.beq i 23 with
  | true => .agg #[junk, junk, junk, junk]
  | false => match Nat.beq i 25 with
  | true => .agg #[junk, junk, junk, junk]
  | false => match Nat.beq i 24 with
  | true => .tuple #[junk, junk]
  | false => match Nat.beq i 27 with
  | true => .tuple #[junk, junk]
  | false => match WDZ i with
  | true => junk
  | false => v i
def BDZ (i : Nat) : Bool := ((Nat.ble 0 i && Nat.ble i 4) || (Nat.ble 7 i && Nat.ble i 11)) || WDZ i || Nat.beq i 13 || Nat.beq i 17 || Nat.beq i 22 || Nat.beq i 23 || Nat.beq i 25 || Nat.beq i 24 || Nat.beq i 27
theorem VDZ_dead {v : VF} (h : ∀ i, DeadV (v i)) (i : Nat) : DeadV (VDZ v i) := by
  unfold VDZ
  split
  · exact ⟨rfl, fun _ => rfl, fun _ => rfl⟩
  split
  · exact ⟨rfl, fun _ => rfl, fun _ => rfl⟩
  split
  · exact ⟨rfl, fun _ => rfl, fun _ => rfl⟩
  split
  · exact ⟨rfl, fun _ => rfl, fun _ => rfl⟩
  split
  · exact ⟨rfl, fun _ => rfl, fun _ => rfl⟩
  split
  · exact ⟨rfl, fun _ => rfl, fun _ => rfl⟩
  split
  · exact ⟨rfl, fun _ => rfl, fun _ => rfl⟩
  split
  · exact DeadV.junk
  · exact h i
theorem lvDZ (i : Nat) (h : ((Nat.ble 0 i && Nat.ble i 4) || (Nat.ble 7 i && Nat.ble i 11)) = true) : BDZ i = true := by
  unfold BDZ
  simp only [Bool.or_eq_true] at h ⊢
  refine .inl ?_
  refine .inl ?_
  refine .inl ?_
  refine .inl ?_
  refine .inl ?_
  refine .inl ?_
  refine .inl ?_
  exact .inl h
def WRZ (i : Nat) : Bool := (Nat.ble 30 i && Nat.ble i 48)
noncomputable def VRZ (v : VF) : VF := fun i => match WRZ i with
  | true => junk
  | false => v i
def BRZ (i : Nat) : Bool := ((Nat.ble 0 i && Nat.ble i 4) || (Nat.ble 7 i && Nat.ble i 11)) || WRZ i
theorem VRZ_dead {v : VF} (h : ∀ i, DeadV (v i)) (i : Nat) : DeadV (VRZ v i) := by
  unfold VRZ
  split
  · exact DeadV.junk
  · exact h i
theorem lvRZ (i : Nat) (h : ((Nat.ble 0 i && Nat.ble i 4) || (Nat.ble 7 i && Nat.ble i 11)) = true) : BRZ i = true := by
  unfold BRZ
  simp only [Bool.or_eq_true] at h ⊢
  exact .inl h
noncomputable def sDZ (x : MX) (a b d : OV) (w : Int) (k : Nat) (i : Nat) (v : VF) : St := q6c x a b d (tmDZ v a b d w k i)
noncomputable def tmFZ (v : VF) (a b d : OV) (w : Int) (k : Nat) : List Value := (a.v :: b.v :: .int .u8 w :: .pointer (some ⟨1, 0, none⟩) :: .pointer (some ⟨2, 0, none⟩) :: v 5 :: v 6 :: .pointer (some ⟨3, 0, none⟩) :: PB_ 0 0 0 :: .bool true :: .int .i64 (nI k) :: .int .i64 (nI (k + 1)) :: vs v 12 101 [])
theorem tmFZ_dead {v : VF} {a b d : OV} {w : Int} {k : Nat} {B : Nat → Bool} (h : ∀ i, DeadV (v i)) (hB : ∀ i, ((Nat.ble 0 i && Nat.ble i 4) || (Nat.ble 7 i && Nat.ble i 11)) = true → B i = true) : deadT B 0 (tmFZ v a b d w k) :=
  ⟨fun e => absurd e (by rw [hB 0 rfl]; decide), ⟨fun e => absurd e (by rw [hB 1 rfl]; decide), ⟨fun e => absurd e (by rw [hB 2 rfl]; decide), ⟨fun e => absurd e (by rw [hB 3 rfl]; decide), ⟨fun e => absurd e (by rw [hB 4 rfl]; decide), ⟨fun _ => h 5, ⟨fun _ => h 6, ⟨fun e => absurd e (by rw [hB 7 rfl]; decide), ⟨fun e => absurd e (by rw [hB 8 rfl]; decide), ⟨fun e => absurd e (by rw [hB 9 rfl]; decide), ⟨fun e => absurd e (by rw [hB 10 rfl]; decide), ⟨fun e => absurd e (by rw [hB 11 rfl]; decide), deadT_vs h 101 (trivial)⟩⟩⟩⟩⟩⟩⟩⟩⟩⟩⟩⟩
def WMZ (i : Nat) : Bool := (Nat.ble 30 i && Nat.ble i 49)
noncomputable def VMZ (v : VF) : VF := fun i => match WMZ i with
  | true => junk
  | false => v i
def BMZ (i : Nat) : Bool := ((Nat.ble 0 i && Nat.ble i 4) || (Nat.ble 7 i && Nat.ble i 11)) || WMZ i
theorem VMZ_dead {v : VF} (h : ∀ i, DeadV (v i)) (i : Nat) : DeadV (VMZ v i) := by
  unfold VMZ
  split
  · exact DeadV.junk
  · exact h i
theorem lvMZ (i : Nat) (h : ((Nat.ble 0 i && Nat.ble i 4) || (Nat.ble 7 i && Nat.ble i 11)) = true) : BMZ i = true := by
  unfold BMZ
  simp only [Bool.or_eq_true] at h ⊢
  exact .inl h
def WYZ (i : Nat) : Bool := (Nat.ble 30 i && Nat.ble i 38)
noncomputable def VYZ (v : VF) : VF := fun i => match WYZ i with
  | true => junk
  | false => v i
def BYZ (i : Nat) : Bool := ((Nat.ble 0 i && Nat.ble i 4) || (Nat.ble 7 i && Nat.ble i 11)) || WYZ i
theorem VYZ_dead {v : VF} (h : ∀ i, DeadV (v i)) (i : Nat) : DeadV (VYZ v i) := by
  unfold VYZ
  split
  · exact DeadV.junk
  · exact h i
theorem lvYZ (i : Nat) (h : ((Nat.ble 0 i && Nat.ble i 4) || (Nat.ble 7 i && Nat.ble i 11)) = true) : BYZ i = true := by
  unfold BYZ
  simp only [Bool.or_eq_true] at h ⊢
  exact .inl h
def WQZ (i : Nat) : Bool := (Nat.ble 30 i && Nat.ble i 35) || Nat.beq i 38
noncomputable def VQZ (v : VF) : VF := fun i => match Nat.beq i 36 with
  | true => undef
  | false => match Nat.beq i 37 with
  | true => undef
  | false => match WQZ i with
  | true => junk
  | false => v i
def BQZ (i : Nat) : Bool := ((Nat.ble 0 i && Nat.ble i 4) || (Nat.ble 7 i && Nat.ble i 11)) || WQZ i || Nat.beq i 36 || Nat.beq i 37
theorem VQZ_dead {v : VF} (h : ∀ i, DeadV (v i)) (i : Nat) : DeadV (VQZ v i) := by
  unfold VQZ
  split
  · exact ⟨rfl, fun _ => rfl, fun _ => rfl⟩
  split
  · exact ⟨rfl, fun _ => rfl, fun _ => rfl⟩
  split
  · exact DeadV.junk
  · exact h i
theorem lvQZ (i : Nat) (h : ((Nat.ble 0 i && Nat.ble i 4) || (Nat.ble 7 i && Nat.ble i 11)) = true) : BQZ i = true := by
  unfold BQZ
  simp only [Bool.or_eq_true] at h ⊢
  refine .inl ?_
  refine .inl ?_
  exact .inl h
noncomputable def sFZ (x : MX) (a b d : OV) (w : Int) (k : Nat) (v : VF) : St := q6c x a b d (tmFZ v a b d w k)
noncomputable def tmEZ (v : VF) (a b d : OV) (w : Int) (k : Nat) (j : Nat) : List Value := (a.v :: b.v :: .int .u8 w :: .pointer (some ⟨1, 0, none⟩) :: .pointer (some ⟨2, 0, none⟩) :: v 5 :: v 6 :: .pointer (some ⟨3, 0, none⟩) :: PB_ 0 0 0 :: .bool true :: v 10 :: v 11 :: .int .i64 (nI j) :: vs v 13 100 [])
theorem tmEZ_dead {v : VF} {a b d : OV} {w : Int} {k : Nat} {j : Nat} {B : Nat → Bool} (h : ∀ i, DeadV (v i)) (hB : ∀ i, ((Nat.ble 0 i && Nat.ble i 4) || (Nat.ble 7 i && Nat.ble i 9) || Nat.beq i 12) = true → B i = true) : deadT B 0 (tmEZ v a b d w k j) :=
  ⟨fun e => absurd e (by rw [hB 0 rfl]; decide), ⟨fun e => absurd e (by rw [hB 1 rfl]; decide), ⟨fun e => absurd e (by rw [hB 2 rfl]; decide), ⟨fun e => absurd e (by rw [hB 3 rfl]; decide), ⟨fun e => absurd e (by rw [hB 4 rfl]; decide), ⟨fun _ => h 5, ⟨fun _ => h 6, ⟨fun e => absurd e (by rw [hB 7 rfl]; decide), ⟨fun e => absurd e (by rw [hB 8 rfl]; decide), ⟨fun e => absurd e (by rw [hB 9 rfl]; decide), ⟨fun _ => h 10, ⟨fun _ => h 11, ⟨fun e => absurd e (by rw [hB 12 rfl]; decide), deadT_vs h 100 (trivial)⟩⟩⟩⟩⟩⟩⟩⟩⟩⟩⟩⟩⟩
def WEZ (i : Nat) : Bool := (Nat.ble 10 i && Nat.ble i 11) || (Nat.ble 50 i && Nat.ble i 73) || (Nat.ble 77 i && Nat.ble i 78)
noncomputable def VEZ (v : VF) : VF := fun i => match Nat.beq i 74 with
  | true => undef
  | false => match Nat.beq i 75 with
  | true => undef
  | false => match Nat.beq i 76 with
  | true => undef
  | false => match WEZ i with
  | true => junk
  | false => v i
def BEZ (i : Nat) : Bool := ((Nat.ble 0 i && Nat.ble i 4) || (Nat.ble 7 i && Nat.ble i 9) || Nat.beq i 12) || WEZ i || Nat.beq i 74 || Nat.beq i 75 || Nat.beq i 76
theorem VEZ_dead {v : VF} (h : ∀ i, DeadV (v i)) (i : Nat) : DeadV (VEZ v i) := by
  unfold VEZ
  split
  · exact ⟨rfl, fun _ => rfl, fun _ => rfl⟩
  split
  · exact ⟨rfl, fun _ => rfl, fun _ => rfl⟩
  split
  · exact ⟨rfl, fun _ => rfl, fun _ => rfl⟩
  split
  · exact DeadV.junk
  · exact h i
theorem lvEZ (i : Nat) (h : ((Nat.ble 0 i && Nat.ble i 4) || (Nat.ble 7 i && Nat.ble i 9) || Nat.beq i 12) = true) : BEZ i = true := by
  unfold BEZ
  simp only [Bool.or_eq_true] at h ⊢
  refine .inl ?_
  refine .inl ?_
  refine .inl ?_
  exact .inl h
def WHZ (i : Nat) : Bool := (Nat.ble 79 i && Nat.ble i 82)
noncomputable def VHZ (v : VF) : VF := fun i => match WHZ i with
  | true => junk
  | false => v i
def BHZ (i : Nat) : Bool := ((Nat.ble 0 i && Nat.ble i 4) || (Nat.ble 7 i && Nat.ble i 9) || Nat.beq i 12) || WHZ i
theorem VHZ_dead {v : VF} (h : ∀ i, DeadV (v i)) (i : Nat) : DeadV (VHZ v i) := by
  unfold VHZ
  split
  · exact DeadV.junk
  · exact h i
theorem lvHZ (i : Nat) (h : ((Nat.ble 0 i && Nat.ble i 4) || (Nat.ble 7 i && Nat.ble i 9) || Nat.beq i 12) = true) : BHZ i = true := by
  unfold BHZ
  simp only [Bool.or_eq_true] at h ⊢
  exact .inl h
noncomputable def sEZ (x : MX) (a b d : OV) (w : Int) (k : Nat) (j : Nat) (v : VF) : St := q6c x a b d (tmEZ v a b d w k j)
noncomputable def tmDS (v : VF) (a b d : OV) (w : Int) (k m : Nat) (M : List Int) (i : Nat) : List Value := (a.v :: b.v :: .int .u8 w :: .pointer (some ⟨1, 0, none⟩) :: .pointer (some ⟨2, 0, none⟩) :: v 5 :: v 6 :: .pointer (some ⟨3, 0, none⟩) :: .slice (some ⟨4, 0, some 1⟩) m m :: .bool true :: .int .i64 (-1) :: .int .i64 (nI i) :: vs v 12 101 [])
theorem tmDS_dead {v : VF} {a b d : OV} {w : Int} {k m : Nat} {M : List Int} {i : Nat} {B : Nat → Bool} (h : ∀ i, DeadV (v i)) (hB : ∀ i, ((Nat.ble 0 i && Nat.ble i 4) || (Nat.ble 7 i && Nat.ble i 11)) = true → B i = true) : deadT B 0 (tmDS v a b d w k m M i) :=
  ⟨fun e => absurd e (by rw [hB 0 rfl]; decide), ⟨fun e => absurd e (by rw [hB 1 rfl]; decide), ⟨fun e => absurd e (by rw [hB 2 rfl]; decide), ⟨fun e => absurd e (by rw [hB 3 rfl]; decide), ⟨fun e => absurd e (by rw [hB 4 rfl]; decide), ⟨fun _ => h 5, ⟨fun _ => h 6, ⟨fun e => absurd e (by rw [hB 7 rfl]; decide), ⟨fun e => absurd e (by rw [hB 8 rfl]; decide), ⟨fun e => absurd e (by rw [hB 9 rfl]; decide), ⟨fun e => absurd e (by rw [hB 10 rfl]; decide), ⟨fun e => absurd e (by rw [hB 11 rfl]; decide), deadT_vs h 101 (trivial)⟩⟩⟩⟩⟩⟩⟩⟩⟩⟩⟩⟩
def WDS (i : Nat) : Bool := Nat.beq i 6 || (Nat.ble 14 i && Nat.ble i 16) || (Nat.ble 18 i && Nat.ble i 20) || Nat.beq i 26 || (Nat.ble 28 i && Nat.ble i 29)
noncomputable def VDS (v : VF) : VF := fun i => match Nat.beq i 13 with
  | true => .agg #[junk, junk, junk, junk]
  | false => match Nat.beq i 17 with
  | true => .agg #[junk, junk, junk, junk]
  | false => match Nat.beq i 22 with
  | true => .agg #[junk, junk, junk, junk]
  | false => match Nat.beq i 23 with
  | true => .agg #[junk, junk, junk, junk]
  | false => match Nat.beq i 25 with
  | true => .agg #[junk, junk, junk, junk]
  | false => match Nat.beq i 24 with
  | true => .tuple #[junk, junk]
  | false => match Nat.beq i 27 with
  | true => .tuple #[junk, junk]
  | false => match WDS i with
  | true => junk
  | false => v i
def BDS (i : Nat) : Bool := ((Nat.ble 0 i && Nat.ble i 4) || (Nat.ble 7 i && Nat.ble i 11)) || WDS i || Nat.beq i 13 || Nat.beq i 17 || Nat.beq i 22 || Nat.beq i 23 || Nat.beq i 25 || Nat.beq i 24 || Nat.beq i 27
theorem VDS_dead {v : VF} (h : ∀ i, DeadV (v i)) (i : Nat) : DeadV (VDS v i) := by
  unfold VDS
  split
  · exact ⟨rfl, fun _ => rfl, fun _ => rfl⟩
  split
  · exact ⟨rfl, fun _ => rfl, fun _ => rfl⟩
  split
  · exact ⟨rfl, fun _ => rfl, fun _ => rfl⟩
  split
  · exact ⟨rfl, fun _ => rfl, fun _ => rfl⟩
  split
  · exact ⟨rfl, fun _ => rfl, fun _ => rfl⟩
  split
  · exact ⟨rfl, fun _ => rfl, fun _ => rfl⟩
  split
  · exact ⟨rfl, fun _ => rfl, fun _ => rfl⟩
  split
  · exact DeadV.junk
  · exact h i
theorem lvDS (i : Nat) (h : ((Nat.ble 0 i && Nat.ble i 4) || (Nat.ble 7 i && Nat.ble i 11)) = true) : BDS i = true := by
  unfold BDS
  simp only [Bool.or_eq_true] at h ⊢
  refine .inl ?_
  refine .inl ?_
  refine .inl ?_
  refine .inl ?_
  refine .inl ?_
  refine .inl ?_
  refine .inl ?_
  exact .inl h
def WRS (i : Nat) : Bool := (Nat.ble 30 i && Nat.ble i 48)
noncomputable def VRS (v : VF) : VF := fun i => match WRS i with
  | true => junk
  | false => v i
def BRS (i : Nat) : Bool := ((Nat.ble 0 i && Nat.ble i 4) || (Nat.ble 7 i && Nat.ble i 11)) || WRS i
theorem VRS_dead {v : VF} (h : ∀ i, DeadV (v i)) (i : Nat) : DeadV (VRS v i) := by
  unfold VRS
  split
  · exact DeadV.junk
  · exact h i
theorem lvRS (i : Nat) (h : ((Nat.ble 0 i && Nat.ble i 4) || (Nat.ble 7 i && Nat.ble i 11)) = true) : BRS i = true := by
  unfold BRS
  simp only [Bool.or_eq_true] at h ⊢
  exact .inl h
noncomputable def sDS (x : MX) (a b d : OV) (w : Int) (k m : Nat) (M : List Int) (i : Nat) (v : VF) : St := q6s x a b d M (tmDS v a b d w k m M i)
noncomputable def tmFS (v : VF) (a b d : OV) (w : Int) (k m : Nat) (M : List Int) : List Value := (a.v :: b.v :: .int .u8 w :: .pointer (some ⟨1, 0, none⟩) :: .pointer (some ⟨2, 0, none⟩) :: v 5 :: v 6 :: .pointer (some ⟨3, 0, none⟩) :: .slice (some ⟨4, 0, some 1⟩) m m :: .bool true :: .int .i64 (nI k) :: .int .i64 (nI (k + 1)) :: vs v 12 101 [])
theorem tmFS_dead {v : VF} {a b d : OV} {w : Int} {k m : Nat} {M : List Int} {B : Nat → Bool} (h : ∀ i, DeadV (v i)) (hB : ∀ i, ((Nat.ble 0 i && Nat.ble i 4) || (Nat.ble 7 i && Nat.ble i 11)) = true → B i = true) : deadT B 0 (tmFS v a b d w k m M) :=
  ⟨fun e => absurd e (by rw [hB 0 rfl]; decide), ⟨fun e => absurd e (by rw [hB 1 rfl]; decide), ⟨fun e => absurd e (by rw [hB 2 rfl]; decide), ⟨fun e => absurd e (by rw [hB 3 rfl]; decide), ⟨fun e => absurd e (by rw [hB 4 rfl]; decide), ⟨fun _ => h 5, ⟨fun _ => h 6, ⟨fun e => absurd e (by rw [hB 7 rfl]; decide), ⟨fun e => absurd e (by rw [hB 8 rfl]; decide), ⟨fun e => absurd e (by rw [hB 9 rfl]; decide), ⟨fun e => absurd e (by rw [hB 10 rfl]; decide), ⟨fun e => absurd e (by rw [hB 11 rfl]; decide), deadT_vs h 101 (trivial)⟩⟩⟩⟩⟩⟩⟩⟩⟩⟩⟩⟩
def WMS (i : Nat) : Bool := (Nat.ble 30 i && Nat.ble i 49)
noncomputable def VMS (v : VF) : VF := fun i => match WMS i with
  | true => junk
  | false => v i
def BMS (i : Nat) : Bool := ((Nat.ble 0 i && Nat.ble i 4) || (Nat.ble 7 i && Nat.ble i 11)) || WMS i
theorem VMS_dead {v : VF} (h : ∀ i, DeadV (v i)) (i : Nat) : DeadV (VMS v i) := by
  unfold VMS
  split
  · exact DeadV.junk
  · exact h i
theorem lvMS (i : Nat) (h : ((Nat.ble 0 i && Nat.ble i 4) || (Nat.ble 7 i && Nat.ble i 11)) = true) : BMS i = true := by
  unfold BMS
  simp only [Bool.or_eq_true] at h ⊢
  exact .inl h
def WYS (i : Nat) : Bool := (Nat.ble 30 i && Nat.ble i 38)
noncomputable def VYS (v : VF) : VF := fun i => match WYS i with
  | true => junk
  | false => v i
def BYS (i : Nat) : Bool := ((Nat.ble 0 i && Nat.ble i 4) || (Nat.ble 7 i && Nat.ble i 11)) || WYS i
theorem VYS_dead {v : VF} (h : ∀ i, DeadV (v i)) (i : Nat) : DeadV (VYS v i) := by
  unfold VYS
  split
  · exact DeadV.junk
  · exact h i
theorem lvYS (i : Nat) (h : ((Nat.ble 0 i && Nat.ble i 4) || (Nat.ble 7 i && Nat.ble i 11)) = true) : BYS i = true := by
  unfold BYS
  simp only [Bool.or_eq_true] at h ⊢
  exact .inl h
def WQS (i : Nat) : Bool := (Nat.ble 30 i && Nat.ble i 35) || Nat.beq i 38
noncomputable def VQS (v : VF) : VF := fun i => match Nat.beq i 36 with
  | true => undef
  | false => match Nat.beq i 37 with
  | true => undef
  | false => match WQS i with
  | true => junk
  | false => v i
def BQS (i : Nat) : Bool := ((Nat.ble 0 i && Nat.ble i 4) || (Nat.ble 7 i && Nat.ble i 11)) || WQS i || Nat.beq i 36 || Nat.beq i 37
theorem VQS_dead {v : VF} (h : ∀ i, DeadV (v i)) (i : Nat) : DeadV (VQS v i) := by
  unfold VQS
  split
  · exact ⟨rfl, fun _ => rfl, fun _ => rfl⟩
  split
  · exact ⟨rfl, fun _ => rfl, fun _ => rfl⟩
  split
  · exact DeadV.junk
  · exact h i
theorem lvQS (i : Nat) (h : ((Nat.ble 0 i && Nat.ble i 4) || (Nat.ble 7 i && Nat.ble i 11)) = true) : BQS i = true := by
  unfold BQS
  simp only [Bool.or_eq_true] at h ⊢
  refine .inl ?_
  refine .inl ?_
  exact .inl h
noncomputable def sFS (x : MX) (a b d : OV) (w : Int) (k m : Nat) (M : List Int) (v : VF) : St := q6s x a b d M (tmFS v a b d w k m M)
noncomputable def tmES (v : VF) (a b d : OV) (w : Int) (k m : Nat) (M : List Int) (j : Nat) : List Value := (a.v :: b.v :: .int .u8 w :: .pointer (some ⟨1, 0, none⟩) :: .pointer (some ⟨2, 0, none⟩) :: v 5 :: v 6 :: .pointer (some ⟨3, 0, none⟩) :: .slice (some ⟨4, 0, some 1⟩) m m :: .bool true :: v 10 :: v 11 :: .int .i64 (nI j) :: vs v 13 100 [])
theorem tmES_dead {v : VF} {a b d : OV} {w : Int} {k m : Nat} {M : List Int} {j : Nat} {B : Nat → Bool} (h : ∀ i, DeadV (v i)) (hB : ∀ i, ((Nat.ble 0 i && Nat.ble i 4) || (Nat.ble 7 i && Nat.ble i 9) || Nat.beq i 12) = true → B i = true) : deadT B 0 (tmES v a b d w k m M j) :=
  ⟨fun e => absurd e (by rw [hB 0 rfl]; decide), ⟨fun e => absurd e (by rw [hB 1 rfl]; decide), ⟨fun e => absurd e (by rw [hB 2 rfl]; decide), ⟨fun e => absurd e (by rw [hB 3 rfl]; decide), ⟨fun e => absurd e (by rw [hB 4 rfl]; decide), ⟨fun _ => h 5, ⟨fun _ => h 6, ⟨fun e => absurd e (by rw [hB 7 rfl]; decide), ⟨fun e => absurd e (by rw [hB 8 rfl]; decide), ⟨fun e => absurd e (by rw [hB 9 rfl]; decide), ⟨fun _ => h 10, ⟨fun _ => h 11, ⟨fun e => absurd e (by rw [hB 12 rfl]; decide), deadT_vs h 100 (trivial)⟩⟩⟩⟩⟩⟩⟩⟩⟩⟩⟩⟩⟩
def WES (i : Nat) : Bool := (Nat.ble 10 i && Nat.ble i 11) || (Nat.ble 50 i && Nat.ble i 73) || (Nat.ble 77 i && Nat.ble i 78)
noncomputable def VES (v : VF) : VF := fun i => match Nat.beq i 74 with
  | true => undef
  | false => match Nat.beq i 75 with
  | true => undef
  | false => match Nat.beq i 76 with
  | true => undef
  | false => match WES i with
  | true => junk
  | false => v i
def BES (i : Nat) : Bool := ((Nat.ble 0 i && Nat.ble i 4) || (Nat.ble 7 i && Nat.ble i 9) || Nat.beq i 12) || WES i || Nat.beq i 74 || Nat.beq i 75 || Nat.beq i 76
theorem VES_dead {v : VF} (h : ∀ i, DeadV (v i)) (i : Nat) : DeadV (VES v i) := by
  unfold VES
  split
  · exact ⟨rfl, fun _ => rfl, fun _ => rfl⟩
  split
  · exact ⟨rfl, fun _ => rfl, fun _ => rfl⟩
  split
  · exact ⟨rfl, fun _ => rfl, fun _ => rfl⟩
  split
  · exact DeadV.junk
  · exact h i
theorem lvES (i : Nat) (h : ((Nat.ble 0 i && Nat.ble i 4) || (Nat.ble 7 i && Nat.ble i 9) || Nat.beq i 12) = true) : BES i = true := by
  unfold BES
  simp only [Bool.or_eq_true] at h ⊢
  refine .inl ?_
  refine .inl ?_
  refine .inl ?_
  exact .inl h
def WGS (i : Nat) : Bool := (Nat.ble 79 i && Nat.ble i 92)
noncomputable def VGS (v : VF) : VF := fun i => match WGS i with
  | true => junk
  | false => v i
def BGS (i : Nat) : Bool := ((Nat.ble 0 i && Nat.ble i 4) || (Nat.ble 7 i && Nat.ble i 9) || Nat.beq i 12) || WGS i
theorem VGS_dead {v : VF} (h : ∀ i, DeadV (v i)) (i : Nat) : DeadV (VGS v i) := by
  unfold VGS
  split
  · exact DeadV.junk
  · exact h i
theorem lvGS (i : Nat) (h : ((Nat.ble 0 i && Nat.ble i 4) || (Nat.ble 7 i && Nat.ble i 9) || Nat.beq i 12) = true) : BGS i = true := by
  unfold BGS
  simp only [Bool.or_eq_true] at h ⊢
  exact .inl h
def WHS (i : Nat) : Bool := (Nat.ble 79 i && Nat.ble i 82)
noncomputable def VHS (v : VF) : VF := fun i => match WHS i with
  | true => junk
  | false => v i
def BHS (i : Nat) : Bool := ((Nat.ble 0 i && Nat.ble i 4) || (Nat.ble 7 i && Nat.ble i 9) || Nat.beq i 12) || WHS i
theorem VHS_dead {v : VF} (h : ∀ i, DeadV (v i)) (i : Nat) : DeadV (VHS v i) := by
  unfold VHS
  split
  · exact DeadV.junk
  · exact h i
theorem lvHS (i : Nat) (h : ((Nat.ble 0 i && Nat.ble i 4) || (Nat.ble 7 i && Nat.ble i 9) || Nat.beq i 12) = true) : BHS i = true := by
  unfold BHS
  simp only [Bool.or_eq_true] at h ⊢
  exact .inl h
noncomputable def sES (x : MX) (a b d : OV) (w : Int) (k m : Nat) (M : List Int) (j : Nat) (v : VF) : St := q6s x a b d M (tmES v a b d w k m M j)
end
end ob
end Go.Proofs.Ytpfmilkddapfiaa
namespace Go.Proofs.Ytpfmilkddapfiaa
open Go.ChangeShapes Go.WideShapes Go.ChangeAt Go.RowKit Go.Cln
namespace ob
set_option linter.unusedVariables false
noncomputable section
noncomputable def strQ (l m : List Int) : Bool := beqB (bytesI l).toList (bytesI m).toList
noncomputable def rowK (x : MX) (P k : Nat) : List Int := ((x.D (x.CQ P (ix3 k))).drop 0).take (x.CM P (ix3 k))
noncomputable def stp (M : List Int) (j : Nat) : List Int := M.set (0 + (nI j).toNat * 1) (IntKind.u8.wrap (M.getD (0 + (nI j).toNat * 1) 0 + 1))
noncomputable def pE (x : MX) (a b d : OV) : Prop := (((((((((((((((((((True ∧ (x.F = x.F ∧ (capOk x d.P d.n ∧ capOk x a.P a.n))) ∧ (openE x d a) = true) ∧ (openE x d a) = true) ∧ (openE x d a) = true) ∧ (openE x d a) = true) ∧ (openE x d a) = true) ∧ (x.F = x.F ∧ (capOk x a.P a.n ∧ capOk x b.P b.n))) ∧ (openE x d a) = true) ∧ (x.F = x.F ∧ (capOk x a.P a.n ∧ capOk x b.P b.n))) ∧ (openE x d a) = true) ∧ (openE x d a) = true) ∧ (openE x a b == openE x a b) = true) ∧ (openE x a b == openE x a b) = true) ∧ (openE x a b == openE x a b) = true) ∧ (x.F = x.F ∧ (capOk x a.P a.n ∧ capOk x d.P d.n))) ∧ (openE x a b == openE x a b) = true) ∧ (openE x a d) = true) ∧ (x.F = x.F ∧ (True))) ∧ (openE x a d) = true)
def pDN (x : MX) (a b d : OV) (w : Int) : Prop := (True ∧ (x.F = x.F ∧ capOk x d.P d.n ∧ whereI (isntC x w d.P) d.n = -1))
theorem kDN (x : MX) (a b d : OV) (w : Int) : (gd6 (KC1 x (-1)) [2, 2, 3, 2, 0] x6 (q6c x a b d (w3 a b w)) []).map (fun r => (r.2, r.1.obl, seenInT BDN r.1 (sDN x a b d w 0 (VDN vU)) [0, 1, 2, 3])) = some (.loop m6, pDN x a b d w, seenAsT BDN (sDN x a b d w 0 (VDN vU)) [0, 1, 2, 3] 6) := by kernel_rfl
theorem okDN (x0 : MX) (x : MX) (a b d : OV) (w : Int) : picOkT BDN (z6l x0 a b w) (sDN x a b d w 0 (VDN vU)) [0, 1, 2, 3] = true := by kernel_rfl
theorem upDN (x : MX) (a b : OV) (w : Int) (ρ0 : Nat → PB) (W0 : World) (Q_ : Exit → St → Prop) : upW Try.prog none (z6l x a b w) ρ0 W0 [2, 2, 3, 2, 0] x6 Q_ = fun e s => (fun e s => (e = .normal ∧ StepW Try.prog none (z6l x a b w) ρ0 W0 x9 s Q_) ∨ (e ≠ .normal ∧ Q_ e s)) (blockOut 0 e) s := by kernel_rfl
def pRN (x : MX) (a : OV) (w : Int) (i : Nat) (b : Bool) : Prop := (((((True ∧ decide (nI i < nI a.n) = true) ∧ (0 ≤ nI i ∧ nI i < nI a.n)) ∧ ((0 + i * 2) % 2 = 0 ∧ (0 + i * 2) / 2 < x.CN a.P)) ∧ (x.CK a.P (ix2 i) == w) = b) ∧ IntKind.i64.wrap (nI i + 1) = nI i + 1)
theorem kRN (x : MX) (a b d : OV) (w : Int) (i : Nat) (v : VF) : (go6 KN m6 (sDN x a b d w i v) [some true, none, none, none, some true, some false, some true, some false, some true]).map (fun r => (r.1, r.2.obl, seenInT BRN r.2 (sDN x a b d w (i + 1) (VRN v)) [0, 1, 2, 3])) = some (.normal, pRN x a w i false, seenAsT BRN (sDN x a b d w (i + 1) (VRN v)) [0, 1, 2, 3] 4) := by kernel_rfl
theorem okRN (x0 : MX) (x : MX) (a b d : OV) (w : Int) (i : Nat) (v : VF) : picOkT BRN (z6l x0 a b w) (sDN x a b d w i (VRN v)) [0, 1, 2, 3] = true := by kernel_rfl
theorem kXN (x : MX) (a b d : OV) (w : Int) (i : Nat) (v : VF) : (go6 KN m6 (sDN x a b d w i v) [some false]).map (fun r => (r.1, r.2.obl, seenInT BXN r.2 (sDN x a b d w i (VXN v)) [0, 1, 2, 3])) = some (.exit 0, (True ∧ decide (nI i < nI a.n) = false), seenAsT BXN (sDN x a b d w i (VXN v)) [0, 1, 2, 3] 4) := by kernel_rfl
theorem okXN (x0 : MX) (x : MX) (a b d : OV) (w : Int) (i : Nat) (v : VF) : picOkT BXN (z6l x0 a b w) (sDN x a b d w i (VXN v)) [0, 1, 2, 3] = true := by kernel_rfl
theorem kPN (x : MX) (a b d : OV) (w : Int) (i : Nat) (v : VF) : (gd6 KN [2, 3, 2, 0] x9 (sDN x a b d w i v) []).map (fun r => (r.2, r.1.obl, seenInT BEN r.1 (sEN x a b d w 0 (VEN v)) [0, 1, 2, 3])) = some (.loop m6b, True, seenAsT BEN (sEN x a b d w 0 (VEN v)) [0, 1, 2, 3] 4) := by kernel_rfl
theorem okPN (x0 : MX) (x : MX) (a b d : OV) (w : Int) (i : Nat) (v : VF) : picOkT BEN (z6l x0 a b w) (sEN x a b d w 0 (VEN v)) [0, 1, 2, 3] = true := by kernel_rfl
theorem upPN (x : MX) (a b : OV) (w : Int) (ρ0 : Nat → PB) (W0 : World) (Q_ : Exit → St → Prop) : upW Try.prog none (z6l x a b w) ρ0 W0 [2, 3, 2, 0] x9 Q_ = fun e s => (fun e s => (e = .normal ∧ StepW Try.prog none (z6l x a b w) ρ0 W0 x11 s Q_) ∨ (e ≠ .normal ∧ Q_ e s)) (blockOut 2 e) s := by kernel_rfl
theorem kHN (x : MX) (a b d : OV) (w : Int) (v : VF) : (go6 KN m6b (sEN x a b d w 0 v) []).map (fun r => (r.1, r.2.obl, seenInT BHN r.2 (sEN x a b d w 0 (VHN v)) [0, 1, 2, 3])) = some (.exit 2, True, seenAsT BHN (sEN x a b d w 0 (VHN v)) [0, 1, 2, 3] 4) := by kernel_rfl
theorem okHN (x0 : MX) (x : MX) (a b d : OV) (w : Int) (v : VF) : picOkT BHN (z6l x0 a b w) (sEN x a b d w 0 (VHN v)) [0, 1, 2, 3] = true := by kernel_rfl
theorem kEN (x : MX) (a b d : OV) (w : Int) (j : Nat) (v : VF) : (go6 (KE x) x11 (sEN x a b d w j v) [some true, some true, some true, some true, some true, some true, some true, some true, some true, some true, some true, some true, some true, some true]).bind (fun r => (results1 Try.prog r.2 [.tmp 6]).map fun q => (r.1, q.2.obl, r.2.defers, oneOf q.1)) = some (.ret, pE x a b d, [], .bool true) := by kernel_rfl
noncomputable def w4 (a b : OV) (w : Int) : List Value := [a.v, b.v, .int .u8 w, .pointer (some ⟨1, 0, none⟩), .pointer (some ⟨2, 0, none⟩), undef, junk, .pointer (some ⟨3, 0, none⟩), PB_ 0 0 0, .bool true, undef, undef, undef, .agg #[junk, junk, junk, junk], junk, junk, junk, .agg #[junk, junk, junk, junk], junk, junk, junk, undef, .agg #[junk, junk, junk, junk], .agg #[junk, junk, junk, junk], .tuple #[junk, junk], .agg #[junk, junk, junk, junk], junk, .tuple #[junk, junk], junk, junk, undef, undef, undef, undef, undef, undef, undef, undef, undef, undef, undef, undef, undef, undef, undef, undef, undef, undef, undef, undef, undef, undef, undef, undef, undef, undef, undef, undef, undef, undef, undef, undef, undef, undef, undef, undef, undef, undef, undef, undef, undef, undef, undef, undef, undef, undef, undef, undef, undef, undef, undef, undef, undef, undef, undef, undef, undef, undef, undef, undef, undef, undef, undef, undef, undef, undef, undef, undef, undef, undef, undef, undef, undef, undef, undef, undef, undef, undef, undef, undef, undef, undef, undef]
theorem kDZ (x : MX) (a b d : OV) (w : Int) (k : Nat) : (gd6 KN [2, 3, 2, 0] x7 (q6c x a b d (w4 a b w)) []).map (fun r => (r.2, r.1.obl, seenInT BDZ r.1 (sDZ x a b d w k 0 (VDZ vU)) [0, 1, 2, 3])) = some (.loop m6, True, seenAsT BDZ (sDZ x a b d w k 0 (VDZ vU)) [0, 1, 2, 3] 4) := by kernel_rfl
theorem okDZ (x0 x : MX) (a b d : OV) (w : Int) (k : Nat) : picOkT BDZ (z6l x0 a b w) (sDZ x a b d w k 0 (VDZ vU)) [0, 1, 2, 3] = true := by kernel_rfl
theorem upDZ (x : MX) (a b : OV) (w : Int) (ρ0 : Nat → PB) (W0 : World) (Q_ : Exit → St → Prop) : upW Try.prog none (z6l x a b w) ρ0 W0 [2, 3, 2, 0] x7 Q_ = fun e s => (fun e s => (e = .normal ∧ StepW Try.prog none (z6l x a b w) ρ0 W0 x9 s Q_) ∨ (e ≠ .normal ∧ Q_ e s)) (blockOut 0 e) s := by kernel_rfl
noncomputable def w3a (a b d : OV) (w : Int) : List Value := [a.v, b.v, .int .u8 w, .pointer (some ⟨1, 0, none⟩), .pointer (some ⟨2, 0, none⟩), undef, junk, .pointer (some ⟨3, 0, none⟩), undef, undef, undef, undef, undef, .agg #[junk, junk, junk, junk], junk, junk, junk, .agg #[junk, junk, junk, junk], junk, junk, junk, undef, .agg #[junk, junk, junk, junk], .agg #[junk, junk, junk, junk], undef, d.v, .int .u8 w, undef, undef, undef, undef, undef, undef, undef, undef, undef, undef, undef, undef, undef, undef, undef, undef, undef, undef, undef, undef, undef, undef, undef, undef, undef, undef, undef, undef, undef, undef, undef, undef, undef, undef, undef, undef, undef, undef, undef, undef, undef, undef, undef, undef, undef, undef, undef, undef, undef, undef, undef, undef, undef, undef, undef, undef, undef, undef, undef, undef, undef, undef, undef, undef, undef, undef, undef, undef, undef, undef, undef, undef, undef, undef, undef, undef, undef, undef, undef, undef, undef, undef, undef, undef, undef, undef]
theorem k4a (x : MX) (a b d : OV) (w : Int) : (runSeq Try.prog KN (mk Try.prog KN 200) o4 [0, 1] { q6c x a b d (w3 a b w) with obl := True, orc := [] }).map (fun r => (r.obl, seenInT allT r (q6c x a b d (w3a a b d w)) [0, 1, 2, 3])) = some (True, seenAsT allT (q6c x a b d (w3a a b d w)) [0, 1, 2, 3] 4) := by kernel_rfl
theorem k4b (x : MX) (a b d : OV) (w : Int) : (runSeq Try.prog KN (mk Try.prog KN 200) o4 [3, 4, 5, 6, 7] { (q6c x a b d (w3a a b d w)).set (some 27) (.tuple #[PB_ 0 0 0, .bool true]) with obl := True, orc := [] }).map (fun r => (r.obl, seenInT allT r (q6c x a b d (w4 a b w)) [0, 1, 2, 3])) = some (True, seenAsT allT (q6c x a b d (w4 a b w)) [0, 1, 2, 3] 4) := by kernel_rfl
theorem ok4a (x0 x : MX) (a b d : OV) (w : Int) : picOkT allT (z6l x0 a b w) (q6c x a b d (w3a a b d w)) [0, 1, 2, 3] = true := by kernel_rfl
theorem ok4b (x0 x : MX) (a b d : OV) (w : Int) : picOkT allT (z6l x0 a b w) (q6c x a b d (w4 a b w)) [0, 1, 2, 3] = true := by kernel_rfl
def pRZ (x : MX) (a : OV) (w : Int) (i : Nat) (b : Bool) : Prop := (((((True ∧ decide (nI i < nI a.n) = true) ∧ (0 ≤ nI i ∧ nI i < nI a.n)) ∧ ((0 + i * 2) % 2 = 0 ∧ (0 + i * 2) / 2 < x.CN a.P)) ∧ (x.CK a.P (ix2 i) == w) = b) ∧ IntKind.i64.wrap (nI i + 1) = nI i + 1)
theorem kRZ (x : MX) (a b d : OV) (w : Int) (k : Nat) (i : Nat) (v : VF) : (go6 KN m6 (sDZ x a b d w k i v) [some true, none, none, none, some true, some false, some true, some false, some true]).map (fun r => (r.1, r.2.obl, seenInT BRZ r.2 (sDZ x a b d w k (i + 1) (VRZ v)) [0, 1, 2, 3])) = some (.normal, pRZ x a w i false, seenAsT BRZ (sDZ x a b d w k (i + 1) (VRZ v)) [0, 1, 2, 3] 4) := by kernel_rfl
theorem okRZ (x0 : MX) (x : MX) (a b d : OV) (w : Int) (k : Nat) (i : Nat) (v : VF) : picOkT BRZ (z6l x0 a b w) (sDZ x a b d w k i (VRZ v)) [0, 1, 2, 3] = true := by kernel_rfl
theorem kMZ (x : MX) (a b d : OV) (w : Int) (k : Nat) (v : VF) : (go6 KN m6 (sDZ x a b d w k k v) [some true, none, none, none, some true, some false, some true, some true, some true]).map (fun r => (r.1, r.2.obl, seenInT BMZ r.2 (sFZ x a b d w k (VMZ v)) [0, 1, 2, 3])) = some (.normal, pRZ x a w k true, seenAsT BMZ (sFZ x a b d w k (VMZ v)) [0, 1, 2, 3] 4) := by kernel_rfl
theorem okMZ (x0 : MX) (x : MX) (a b d : OV) (w : Int) (k : Nat) (v : VF) : picOkT BMZ (z6l x0 a b w) (sFZ x a b d w k (VMZ v)) [0, 1, 2, 3] = true := by kernel_rfl
theorem kYZ (x : MX) (a b d : OV) (w : Int) (k : Nat) (v : VF) : (go6 KN m6 (sFZ x a b d w k v) [some true, none, none, none]).map (fun r => (r.1, r.2.obl, seenInT BYZ r.2 (sFZ x a b d w k (VYZ v)) [0, 1, 2, 3])) = some (.exit 0, (True ∧ decide (nI (k + 1) < nI a.n) = true), seenAsT BYZ (sFZ x a b d w k (VYZ v)) [0, 1, 2, 3] 4) := by kernel_rfl
theorem okYZ (x0 : MX) (x : MX) (a b d : OV) (w : Int) (k : Nat) (v : VF) : picOkT BYZ (z6l x0 a b w) (sFZ x a b d w k (VYZ v)) [0, 1, 2, 3] = true := by kernel_rfl
theorem kQZ (x : MX) (a b d : OV) (w : Int) (k : Nat) (v : VF) : (go6 KN m6 (sFZ x a b d w k v) [some false]).map (fun r => (r.1, r.2.obl, seenInT BQZ r.2 (sFZ x a b d w k (VQZ v)) [0, 1, 2, 3])) = some (.exit 0, (True ∧ decide (nI (k + 1) < nI a.n) = false), seenAsT BQZ (sFZ x a b d w k (VQZ v)) [0, 1, 2, 3] 4) := by kernel_rfl
theorem okQZ (x0 : MX) (x : MX) (a b d : OV) (w : Int) (k : Nat) (v : VF) : picOkT BQZ (z6l x0 a b w) (sFZ x a b d w k (VQZ v)) [0, 1, 2, 3] = true := by kernel_rfl
def pPZ (x : MX) (a : OV) (k m : Nat) (M : List Int) : Prop := (((((((((True ∧ (0 = 0 ∨ 0 + 0 ≤ (x.D 0).length)) ∧ (0 ≤ nI k ∧ nI k < nI a.n)) ∧ ((0 + k * 2 + 1) % 2 = 1 ∧ (0 + k * 2 + 1) / 2 < x.CN a.P)) ∧ (x.CM a.P (ix3 k) = 0 ∨ 0 + x.CM a.P (ix3 k) ≤ (x.D (x.CQ a.P (ix3 k))).length)) ∧ (!strQ (((x.D 0).drop 0).take 0) (rowK x a.P k)) = false) ∧ (!strQ (((x.D 0).drop 0).take 0) (rowK x a.P k)) = false) ∧ (!strQ (((x.D 0).drop 0).take 0) (rowK x a.P k)) = false) ∧ (!strQ (((x.D 0).drop 0).take 0) (rowK x a.P k)) = false) ∧ (!strQ (((x.D 0).drop 0).take 0) (rowK x a.P k)) = false)
theorem kPZ (x : MX) (a b d : OV) (w : Int) (k : Nat) (v : VF) : (gd6 KN [2, 3, 2, 0] x9 (sFZ x a b d w k v) [none, none, none, none, none, none, none, none, none, some true, none, none, some false, none, some true, none, none, none, none, none, some false, some false, some false, none, none, none, some false, none, some false, none]).map (fun r => (r.2, r.1.obl, seenInT BEZ r.1 (sEZ x a b d w k 0 (VEZ v)) [0, 1, 2, 3])) = some (.loop m6b, pPZ x a k 0 [], seenAsT BEZ (sEZ x a b d w k 0 (VEZ v)) [0, 1, 2, 3] 4) := by kernel_rfl
theorem okPZ (x0 : MX) (x : MX) (a b d : OV) (w : Int) (k : Nat) (v : VF) : picOkT BEZ (z6l x0 a b w) (sEZ x a b d w k 0 (VEZ v)) [0, 1, 2, 3] = true := by kernel_rfl
theorem upPZ (x : MX) (a b : OV) (w : Int) (ρ0 : Nat → PB) (W0 : World) (Q_ : Exit → St → Prop) : upW Try.prog none (z6l x a b w) ρ0 W0 [2, 3, 2, 0] x9 Q_ = fun e s => (fun e s => (e = .normal ∧ StepW Try.prog none (z6l x a b w) ρ0 W0 x11 s Q_) ∨ (e ≠ .normal ∧ Q_ e s)) (blockOut 2 e) s := by kernel_rfl
theorem kHZ (x : MX) (a b d : OV) (w : Int) (k : Nat) (v : VF) : (go6 KN m6b (sEZ x a b d w k 0 v) []).map (fun r => (r.1, r.2.obl, seenInT BHZ r.2 (sEZ x a b d w k 0 (VHZ v)) [0, 1, 2, 3])) = some (.exit 2, True, seenAsT BHZ (sEZ x a b d w k 0 (VHZ v)) [0, 1, 2, 3] 4) := by kernel_rfl
theorem okHZ (x0 : MX) (x : MX) (a b d : OV) (w : Int) (k : Nat) (v : VF) : picOkT BHZ (z6l x0 a b w) (sEZ x a b d w k 0 (VHZ v)) [0, 1, 2, 3] = true := by kernel_rfl
theorem kEZ (x : MX) (a b d : OV) (w : Int) (k : Nat) (j : Nat) (v : VF) : (go6 (KE x) x11 (sEZ x a b d w k j v) [some true, some true, some true, some true, some true, some true, some true, some true, some true, some true, some true, some true, some true, some true]).bind (fun r => (results1 Try.prog r.2 [.tmp 6]).map fun q => (r.1, q.2.obl, r.2.defers, oneOf q.1)) = some (.ret, pE x a b d, [], .bool true) := by kernel_rfl
def pDS (x : MX) (a b d : OV) (w : Int) (k : Nat) : Prop := ((((((True ∧ (x.F = x.F ∧ capOk x d.P d.n ∧ whereI (isntC x w d.P) d.n = nI k)) ∧ (0 ≤ nI k ∧ nI k < nI d.n)) ∧ ((0 + k * 2 + 1) % 2 = 1 ∧ (0 + k * 2 + 1) / 2 < x.CN d.P)) ∧ (0 < x.CM d.P (ix3 k) ∨ 0 < x.CC d.P (ix3 k))) ∧ decide (0 + x.CM d.P (ix3 k) ≤ 0) = false) ∧ ((x.CM d.P (ix3 k) = 0 ∨ 0 + x.CM d.P (ix3 k) ≤ (x.D (x.CQ d.P (ix3 k))).length) ∧ 0 + 0 ≤ ([] : List Int).length ∧ (0 + x.CM d.P (ix3 k)) * 1 ≤ mostBytes ∧ 0 + x.CM d.P (ix3 k) ≤ mostBytes))
theorem kDS (x : MX) (a b d : OV) (w : Int) (k : Nat) : (gd6 (KC1 x (nI k)) [2, 2, 3, 2, 0] x6 (q6c x a b d (w3 a b w)) [none, some true, some false, none, some true, none, some false]).map (fun r => (r.2, r.1.obl, seenInT BDS r.1 (sDS x a b d w k (0 + x.CM d.P (ix3 k)) (rowK x d.P k) 0 (VDS vU)) [0, 1, 2, 3, 7])) = some (.loop m6, pDS x a b d w k, seenAsT BDS (sDS x a b d w k (0 + x.CM d.P (ix3 k)) (rowK x d.P k) 0 (VDS vU)) [0, 1, 2, 3, 7] 8) := by kernel_rfl
theorem okDS (x0 : MX) (x : MX) (a b d : OV) (w : Int) (k : Nat) : picOkT BDS (z6l x0 a b w) (sDS x a b d w k (0 + x.CM d.P (ix3 k)) (rowK x d.P k) 0 (VDS vU)) [0, 1, 2, 3, 7] = true := by kernel_rfl
theorem upDS (x : MX) (a b : OV) (w : Int) (ρ0 : Nat → PB) (W0 : World) (Q_ : Exit → St → Prop) : upW Try.prog none (z6l x a b w) ρ0 W0 [2, 2, 3, 2, 0] x6 Q_ = fun e s => (fun e s => (e = .normal ∧ StepW Try.prog none (z6l x a b w) ρ0 W0 x9 s Q_) ∨ (e ≠ .normal ∧ Q_ e s)) (blockOut 0 e) s := by kernel_rfl
def pRS (x : MX) (a : OV) (w : Int) (i : Nat) (b : Bool) : Prop := (((((True ∧ decide (nI i < nI a.n) = true) ∧ (0 ≤ nI i ∧ nI i < nI a.n)) ∧ ((0 + i * 2) % 2 = 0 ∧ (0 + i * 2) / 2 < x.CN a.P)) ∧ (x.CK a.P (ix2 i) == w) = b) ∧ IntKind.i64.wrap (nI i + 1) = nI i + 1)
theorem kRS (x : MX) (a b d : OV) (w : Int) (k m : Nat) (M : List Int) (i : Nat) (v : VF) : (go6 KN m6 (sDS x a b d w k m M i v) [some true, none, none, none, some true, some false, some true, some false, some true]).map (fun r => (r.1, r.2.obl, seenInT BRS r.2 (sDS x a b d w k m M (i + 1) (VRS v)) [0, 1, 2, 3, 4])) = some (.normal, pRS x a w i false, seenAsT BRS (sDS x a b d w k m M (i + 1) (VRS v)) [0, 1, 2, 3, 4] 5) := by kernel_rfl
theorem okRS (x0 : MX) (x : MX) (a b d : OV) (w : Int) (k m : Nat) (M : List Int) (i : Nat) (v : VF) : picOkT BRS (z6l x0 a b w) (sDS x a b d w k m M i (VRS v)) [0, 1, 2, 3, 4] = true := by kernel_rfl
theorem kMS (x : MX) (a b d : OV) (w : Int) (k m : Nat) (M : List Int) (v : VF) : (go6 KN m6 (sDS x a b d w k m M k v) [some true, none, none, none, some true, some false, some true, some true, some true]).map (fun r => (r.1, r.2.obl, seenInT BMS r.2 (sFS x a b d w k m M (VMS v)) [0, 1, 2, 3, 4])) = some (.normal, pRS x a w k true, seenAsT BMS (sFS x a b d w k m M (VMS v)) [0, 1, 2, 3, 4] 5) := by kernel_rfl
theorem okMS (x0 : MX) (x : MX) (a b d : OV) (w : Int) (k m : Nat) (M : List Int) (v : VF) : picOkT BMS (z6l x0 a b w) (sFS x a b d w k m M (VMS v)) [0, 1, 2, 3, 4] = true := by kernel_rfl
theorem kYS (x : MX) (a b d : OV) (w : Int) (k m : Nat) (M : List Int) (v : VF) : (go6 KN m6 (sFS x a b d w k m M v) [some true, none, none, none]).map (fun r => (r.1, r.2.obl, seenInT BYS r.2 (sFS x a b d w k m M (VYS v)) [0, 1, 2, 3, 4])) = some (.exit 0, (True ∧ decide (nI (k + 1) < nI a.n) = true), seenAsT BYS (sFS x a b d w k m M (VYS v)) [0, 1, 2, 3, 4] 5) := by kernel_rfl
theorem okYS (x0 : MX) (x : MX) (a b d : OV) (w : Int) (k m : Nat) (M : List Int) (v : VF) : picOkT BYS (z6l x0 a b w) (sFS x a b d w k m M (VYS v)) [0, 1, 2, 3, 4] = true := by kernel_rfl
theorem kQS (x : MX) (a b d : OV) (w : Int) (k m : Nat) (M : List Int) (v : VF) : (go6 KN m6 (sFS x a b d w k m M v) [some false]).map (fun r => (r.1, r.2.obl, seenInT BQS r.2 (sFS x a b d w k m M (VQS v)) [0, 1, 2, 3, 4])) = some (.exit 0, (True ∧ decide (nI (k + 1) < nI a.n) = false), seenAsT BQS (sFS x a b d w k m M (VQS v)) [0, 1, 2, 3, 4] 5) := by kernel_rfl
theorem okQS (x0 : MX) (x : MX) (a b d : OV) (w : Int) (k m : Nat) (M : List Int) (v : VF) : picOkT BQS (z6l x0 a b w) (sFS x a b d w k m M (VQS v)) [0, 1, 2, 3, 4] = true := by kernel_rfl
def pPS (x : MX) (a : OV) (k m : Nat) (M : List Int) : Prop := (((((((((True ∧ (0 + m ≤ M.length)) ∧ (0 ≤ nI k ∧ nI k < nI a.n)) ∧ ((0 + k * 2 + 1) % 2 = 1 ∧ (0 + k * 2 + 1) / 2 < x.CN a.P)) ∧ (x.CM a.P (ix3 k) = 0 ∨ 0 + x.CM a.P (ix3 k) ≤ (x.D (x.CQ a.P (ix3 k))).length)) ∧ (!strQ ((M.drop 0).take m) (rowK x a.P k)) = false) ∧ (!strQ ((M.drop 0).take m) (rowK x a.P k)) = false) ∧ (!strQ ((M.drop 0).take m) (rowK x a.P k)) = false) ∧ (!strQ ((M.drop 0).take m) (rowK x a.P k)) = false) ∧ (!strQ ((M.drop 0).take m) (rowK x a.P k)) = false)
theorem kPS (x : MX) (a b d : OV) (w : Int) (k m : Nat) (M : List Int) (v : VF) : (gd6 KN [2, 3, 2, 0] x9 (sFS x a b d w k m M v) [none, none, none, none, none, none, none, none, none, some true, none, none, some false, none, some true, none, none, none, none, none, some false, some false, some false, none, none, none, some false, none, some false, none]).map (fun r => (r.2, r.1.obl, seenInT BES r.1 (sES x a b d w k m M 0 (VES v)) [0, 1, 2, 3, 4])) = some (.loop m6b, pPS x a k m M, seenAsT BES (sES x a b d w k m M 0 (VES v)) [0, 1, 2, 3, 4] 5) := by kernel_rfl
theorem okPS (x0 : MX) (x : MX) (a b d : OV) (w : Int) (k m : Nat) (M : List Int) (v : VF) : picOkT BES (z6l x0 a b w) (sES x a b d w k m M 0 (VES v)) [0, 1, 2, 3, 4] = true := by kernel_rfl
theorem upPS (x : MX) (a b : OV) (w : Int) (ρ0 : Nat → PB) (W0 : World) (Q_ : Exit → St → Prop) : upW Try.prog none (z6l x a b w) ρ0 W0 [2, 3, 2, 0] x9 Q_ = fun e s => (fun e s => (e = .normal ∧ StepW Try.prog none (z6l x a b w) ρ0 W0 x11 s Q_) ∨ (e ≠ .normal ∧ Q_ e s)) (blockOut 2 e) s := by kernel_rfl
def pG (m : Nat) (M : List Int) (j : Nat) : Prop := ((((((True ∧ decide (nI j < nI m) = true) ∧ (0 ≤ nI j ∧ nI j < nI m)) ∧ (0 + (nI j).toNat * 1 + 1 ≤ M.length)) ∧ (0 ≤ nI j ∧ nI j < nI m)) ∧ (0 + (nI j).toNat * 1 + 1 ≤ M.length)) ∧ IntKind.i64.wrap (nI j + 1) = nI j + 1)
theorem kGS (x : MX) (a b d : OV) (w : Int) (k m : Nat) (M : List Int) (j : Nat) (v : VF) : (go6 KN m6b (sES x a b d w k m M j v) [some true, some true, some true, none, some true, some true, some true]).map (fun r => (r.1, r.2.obl, seenInT BGS r.2 (sES x a b d w k m (stp M j) (j + 1) (VGS v)) [0, 1, 2, 3, 4])) = some (.normal, pG m M j, seenAsT BGS (sES x a b d w k m (stp M j) (j + 1) (VGS v)) [0, 1, 2, 3, 4] 5) := by kernel_rfl
theorem okGS (x0 : MX) (x : MX) (a b d : OV) (w : Int) (k m : Nat) (M : List Int) (j : Nat) (v : VF) : picOkT BGS (z6l x0 a b w) (sES x a b d w k m M j (VGS v)) [0, 1, 2, 3, 4] = true := by kernel_rfl
theorem kHS (x : MX) (a b d : OV) (w : Int) (k m : Nat) (M : List Int) (j : Nat) (v : VF) : (go6 KN m6b (sES x a b d w k m M j v) [some false]).map (fun r => (r.1, r.2.obl, seenInT BHS r.2 (sES x a b d w k m M j (VHS v)) [0, 1, 2, 3, 4])) = some (.exit 2, (True ∧ decide (nI j < nI m) = false), seenAsT BHS (sES x a b d w k m M j (VHS v)) [0, 1, 2, 3, 4] 5) := by kernel_rfl
theorem okHS (x0 : MX) (x : MX) (a b d : OV) (w : Int) (k m : Nat) (M : List Int) (j : Nat) (v : VF) : picOkT BHS (z6l x0 a b w) (sES x a b d w k m M j (VHS v)) [0, 1, 2, 3, 4] = true := by kernel_rfl
theorem kES (x : MX) (a b d : OV) (w : Int) (k m : Nat) (M : List Int) (j : Nat) (v : VF) : (go6 (KE x) x11 (sES x a b d w k m M j v) [some true, some true, some true, some true, some true, some true, some true, some true, some true, some true, some true, some true, some true, some true]).bind (fun r => (results1 Try.prog r.2 [.tmp 6]).map fun q => (r.1, q.2.obl, r.2.defers, oneOf q.1)) = some (.ret, pE x a b d, [], .bool true) := by kernel_rfl
end
end ob
end Go.Proofs.Ytpfmilkddapfiaa
