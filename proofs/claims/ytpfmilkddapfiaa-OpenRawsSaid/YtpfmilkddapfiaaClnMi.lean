/- Read off the code by the clean reading. -/
import Derived.Test.YtpfmilkddapfiaaClnMh
set_option linter.unusedVariables false
set_option linter.unusedSimpArgs false
set_option linter.deprecated false
set_option maxRecDepth 100000
namespace Go.Proofs.Ytpfmilkddapfiaa
open Go.ChangeShapes Go.WideShapes Go.ChangeAt Go.RowKit Go.Cln
namespace ob
set_option linter.unusedVariables false
noncomputable section
def b48 : Code := ((Try.prog.funcs[48]?).bind (·.body)).getD .skip
theorem fn48 : (Try.prog.funcs[48]?).map (fun f => (f.body, f.results.toList, f.ntmps)) = some (some b48, [.cell 2 53], 8) := by kernel_rfl
noncomputable def z48 (x : MX) (a : OV) : St := { smSt 1 [some (.fam x.F)] [] with tmps := [a.v] ++ List.replicate 7 undef, defers := [] }
noncomputable def go48 (K : Given) (c : Code) (s : St) (o : List (Option Bool)) : Option (Exit × St) := (mk Try.prog K 300).code 48 none c { s with obl := True, orc := o }
noncomputable def B4 (a : OV) : List Int := [IntKind.u8.wrap (a.asn.fdiv (2 ^ 24)), IntKind.u8.wrap (a.asn.fdiv (2 ^ 16)), IntKind.u8.wrap (a.asn.fdiv (2 ^ 8)), IntKind.u8.wrap (a.asn.fdiv (2 ^ 0))]
noncomputable def tm48 (v : VF) (a : OV) : List Value := (a.v :: .pointer (some ⟨1, 0, none⟩) :: .pointer (some ⟨2, 0, none⟩) :: vs v 3 5 [])
theorem tm48_dead {v : VF} {a : OV} {B : Nat → Bool} (h : ∀ i, DeadV (v i)) (hB : ∀ i, ((Nat.ble 0 i && Nat.ble i 2)) = true → B i = true) : deadT B 0 (tm48 v a) :=
  dl (hB 0 rfl) (dl (hB 1 rfl) (dl (hB 2 rfl) (deadT_vs h 5 (trivial))))
def WD48 (i : Nat) : Bool := (Nat.ble 3 i && Nat.ble i 6)
noncomputable def VD48 (v : VF) : VF := fun i => match Nat.beq i 7 with
  | true => .agg #[junk, junk]
  | false => match WD48 i with
  | true => junk
  | false => v i
def BD48 (i : Nat) : Bool := ((Nat.ble 0 i && Nat.ble i 2)) || WD48 i || Nat.beq i 7
theorem VD48_dead {v : VF} (h : ∀ i, DeadV (v i)) (i : Nat) : DeadV (VD48 v i) := by
  unfold VD48
  split
  · exact ⟨rfl, fun _ => rfl, fun _ => rfl⟩
  split
  · exact DeadV.junk
  · exact h i
theorem lvD48 (i : Nat) (h : ((Nat.ble 0 i && Nat.ble i 2)) = true) : BD48 i = true := jl (jl h)
noncomputable def h48a (x : MX) (a : OV) : Nat → Option Ob := fun j => match j with
  | 0 => some (.fam x.F)
  | 1 => some (.cells (.lit a.l) 26)
  | 2 => some (.cells (.lit [.int .u8 65, .slice (some ⟨3, 0, some 1⟩) 4 4]) 53)
  | 3 => some (.cells (.lit ((B4 a).map (Value.int .u8))) 5)
  | _ => none
theorem h48a_ok (x : MX) (a : OV) : Go.Cln.RowsIn (h48a x a) := by
  intro b n' w' g' t h
  unfold h48a at h
  split at h <;> cases h
noncomputable def h48b (x : MX) (a : OV) (P c : Nat) : Nat → Option Ob := fun j => match j with
  | 0 => some (.fam x.F)
  | 1 => some (.cells (.lit a.l) 26)
  | 2 => some (.cells (.lit [.int .u8 65, PB_ P 4 c]) 53)
  | _ => none
noncomputable def s48a (x : MX) (a : OV) (v : VF) : St := ⟨tm48 v a, [], Tr.rebuild (h48a x a) 4, 4, 1, [], fun _ => false, True, []⟩
noncomputable def s48b (x : MX) (a : OV) (P c : Nat) (v : VF) : St := ⟨tm48 v a, [], Tr.rebuild (h48b x a P c) 4, 4, 1, [], fun _ => false, True, []⟩
theorem k48 (x : MX) (a : OV) : (go48 KN b48 (z48 x a) []).map (fun r => (r.1, r.2.obl, seenInT BD48 r.2 (s48a x a (VD48 vU)) [0, 1, 2, 11])) = some (.ret, True, seenAsT BD48 (s48a x a (VD48 vU)) [0, 1, 2, 11] 12) := by kernel_rfl
theorem ok48 (x : MX) (a : OV) (v : VF) : picOkT BD48 (z48 x a) (s48a x a (VD48 v)) [0, 1, 2, 11] = true := by kernel_rfl
theorem res48 (x : MX) (a : OV) (P c : Nat) (v : VF) : (results1 Try.prog (s48b x a P c v) [.cell 2 53]).map (fun q => (q.1, q.2.obl)) = some ([cv 65 P 4 c], True) := by kernel_rfl
theorem z48_base (x : MX) (a : OV) (b : Nat) (o : Ob) (h : (z48 x a).heap.get b = some o) : (z48 x a).may b = false := by
  obtain ⟨rfl, _⟩ := fam_get (orc := []) (show (smSt 1 [some (.fam x.F)] []).heap.get b = some o from h)
  rfl
theorem took48 (x : MX) (a : OV) (P c' : Nat) (v : VF) : TookS (s48a x a v) (s48b (x.wD (updF x.D P (B4 a))) a P c' v) x.F (fun g => Nat.beq g 1000) 1000 3 2 1 (.ints .u8 (B4 a)) (.lit [.int .u8 65, .slice (some ⟨3, 0, some 1⟩) 4 4]) 53 4 P c' where
  next := rfl
  roB := rfl
  ro := rfl
  hid := rfl
  defers := rfl
  tmps := rfl
  zero := by rw [← putB_F]; kernel_rfl
  gone := by kernel_rfl
  cell := ⟨.lit [.int .u8 65, PB_ P 4 c'], by kernel_rfl, fun k u hu => by
    rcases k with _ | _ | k
    · exact .inr ⟨by decide, hu⟩
    · cases hu; exact .inl ⟨rfl, rfl⟩
    · cases hu⟩
  rest := fun j h0 hb hm => by
    show (Tr.rebuild _ _).get j = (Tr.rebuild _ _).get j
    rw [Tr.get_rebuild _ _ _ (by decide), Tr.get_rebuild _ _ _ (by decide)]
    split
    · rcases j with _ | _ | _ | _ | j
      · exact absurd rfl h0
      · rfl
      · exact absurd rfl hm
      · exact absurd rfl hb
      · rfl
    · rfl
theorem g48a0 (x : MX) (a : OV) (v : VF) : (s48a x a v).heap.get 0 = some (.fam x.F) := by kernel_rfl
theorem g48a2 (x : MX) (a : OV) (v : VF) : (s48a x a v).heap.get 2 = some (.cells (.lit [.int .u8 65, .slice (some ⟨3, 0, some 1⟩) 4 4]) 53) := by kernel_rfl
theorem g48a3 (x : MX) (a : OV) (v : VF) : (s48a x a v).heap.get 3 = some (.cells (.lit ((B4 a).map (Value.int .u8))) 5) := by kernel_rfl
theorem g48b0 (x : MX) (a : OV) (P c : Nat) (v : VF) : (s48b x a P c v).heap.get 0 = some (.fam x.F) := by kernel_rfl
def AsR (x : MX) (a : OV) (F' : Nat → Nat → Cells) (v : Value) : Prop := ∃ (y : MX) (P c : Nat), F' = y.F ∧ v = cv 65 P 4 c ∧ Keeps x.F y.F ∧ y.D P = B4 a
theorem as48 {x : MX} {a : OV} : MkOk Try.prog x.F 48 [a.v] (AsR x a) := by
  refine mk_fn (s0 := z48 x a) rfl fn48 fun ρ0 W0 => ?_
  refine StepW.turn ((StepG.stdT (s0 := z48 x a) (rd := none) pg KN_ok (k48 x a) trivial (show 1 ≤ 1 by decide) (tm48_dead (VD48_dead vU_dead) lvD48) (h48a_ok x a) rfl (ok48 x a vU)).at ρ0 W0) ?_
  rintro e s w a' ⟨rfl, rfl⟩ hs0 hp
  obtain ⟨P, c', hc, hP, hk, hp2⟩ := PicG.takeS (sg := 1000) (i := 1) (p := fun g => Nat.beq g 1000) (c := .ints .u8 (B4 a)) (fun P c' => s48b (x.wD (updF x.D P (B4 a))) a P c' (VD48 vU)) hp (b := 3) (m := 2) (F := x.F) (g48a0 x a _) (g48a3 x a _) lit_ints_fam (g48a2 x a _) rfl (by decide) (by decide) (by decide) rfl rfl rfl rfl (z48_base x a) (fun P c' => took48 x a P c' _)
  rw [← putB_F] at hk
  cases hq : results1 Try.prog (s48b (x.wD (updF x.D P (B4 a))) a P c' (VD48 vU)) [.cell 2 53] with
  | none => have := res48 (x.wD (updF x.D P (B4 a))) a P c' (VD48 vU); rw [hq] at this; cases this
  | some q =>
  have h2 := res48 (x.wD (updF x.D P (B4 a))) a P c' (VD48 vU)
  rw [hq] at h2
  simp only [Option.map_some, Option.some.injEq, Prod.mk.injEq] at h2
  refine ⟨_, ⟨rfl, rfl, _, q, g48b0 _ a _ _ _, ?_, hq, by rw [h2.2]; trivial, by rw [h2.1]; rfl, _, P, c', rfl, by rw [h2.1]; rfl, hk, updF_at _ _ _⟩, hp2⟩
  rw [putB_F]; exact (Fresh.refl _ _).put hP
end
end ob
end Go.Proofs.Ytpfmilkddapfiaa
namespace Go.Proofs.Ytpfmilkddapfiaa
open Go.ChangeShapes Go.WideShapes Go.ChangeAt Go.RowKit Go.Cln
namespace ob
set_option linter.unusedVariables false
noncomputable section
def b47 : Code := ((Try.prog.funcs[47]?).bind (·.body)).getD .skip
theorem fn47 : (Try.prog.funcs[47]?).map (fun f => (f.body, f.results.toList, f.ntmps)) = some (some b47, [.tmp 2], 27) := by kernel_rfl
def l47 : Code := loopB Try.prog 47 0
def e47 : Code := sndC (sndC (sndC b47))
noncomputable def z47 (x : MX) (P n c : Nat) : St := { smSt 1 [some (.fam x.F)] [] with tmps := [PC P n c] ++ List.replicate 26 undef, defers := [] }
noncomputable def go47 (K : Given) (c : Code) (s : St) (o : List (Option Bool)) : Option (Exit × St) := (mk Try.prog K 300).code 47 none c { s with obl := True, orc := o }
noncomputable def gd47 (K : Given) (s : St) (o : List (Option Bool)) : Option (St × Code) := down (mk Try.prog K 300) 47 none [2, 2, 3, 2, 0] b47 { s with obl := True, orc := o }
noncomputable def tm47a (v : VF) (P n c : Nat) (i : Nat) : List Value := (PC P n c :: v 1 :: v 2 :: .slice none 0 0 :: v 4 :: v 5 :: PC P n c :: .int .i64 (nI n) :: .int .i64 (nI i) :: vs v 9 18 [])
theorem tm47a_dead {v : VF} {P n c : Nat} {i : Nat} {B : Nat → Bool} (h : ∀ i, DeadV (v i)) (hB : ∀ i, (Nat.beq i 0 || Nat.beq i 3 || (Nat.ble 6 i && Nat.ble i 8)) = true → B i = true) : deadT B 0 (tm47a v P n c i) :=
  dl (hB 0 rfl) (dn (h 1) (dn (h 2) (dl (hB 3 rfl) (dn (h 4) (dn (h 5) (dl (hB 6 rfl) (dl (hB 7 rfl) (dl (hB 8 rfl) (deadT_vs h 18 (trivial))))))))))
noncomputable def tm47b (v : VF) (P n c : Nat) (m k i : Nat) : List Value := (PC P n c :: v 1 :: v 2 :: .slice (some ⟨1, 0, some 1⟩) m k :: v 4 :: v 5 :: PC P n c :: .int .i64 (nI n) :: .int .i64 (nI i) :: vs v 9 18 [])
theorem tm47b_dead {v : VF} {P n c : Nat} {m k i : Nat} {B : Nat → Bool} (h : ∀ i, DeadV (v i)) (hB : ∀ i, (Nat.beq i 0 || Nat.beq i 3 || (Nat.ble 6 i && Nat.ble i 8)) = true → B i = true) : deadT B 0 (tm47b v P n c m k i) :=
  dl (hB 0 rfl) (dn (h 1) (dn (h 2) (dl (hB 3 rfl) (dn (h 4) (dn (h 5) (dl (hB 6 rfl) (dl (hB 7 rfl) (dl (hB 8 rfl) (deadT_vs h 18 (trivial))))))))))
noncomputable def tm47r (v : VF) (P n c : Nat) (u : Value) : List Value := (PC P n c :: v 1 :: u :: vs v 3 24 [])
theorem tm47r_dead {v : VF} {P n c : Nat} {u : Value} {B : Nat → Bool} (h : ∀ i, DeadV (v i)) (hB : ∀ i, (Nat.beq i 0 || Nat.beq i 2) = true → B i = true) : deadT B 0 (tm47r v P n c u) :=
  dl (hB 0 rfl) (dn (h 1) (dl (hB 2 rfl) (deadT_vs h 24 (trivial))))
def WD47 (i : Nat) : Bool := Nat.beq i 2
noncomputable def VD47 (v : VF) : VF := fun i => match WD47 i with
  | true => junk
  | false => v i
def BD47 (i : Nat) : Bool := (Nat.beq i 0 || Nat.beq i 3 || (Nat.ble 6 i && Nat.ble i 8)) || WD47 i
theorem VD47_dead {v : VF} (h : ∀ i, DeadV (v i)) (i : Nat) : DeadV (VD47 v i) := jD (W := WD47) h i
theorem lvD47 (i : Nat) (h : (Nat.beq i 0 || Nat.beq i 3 || (Nat.ble 6 i && Nat.ble i 8)) = true) : BD47 i = true := jl h
def WR47 (i : Nat) : Bool := Nat.beq i 5 || (Nat.ble 9 i && Nat.ble i 10) || (Nat.ble 12 i && Nat.ble i 25)
noncomputable def VR47 (v : VF) : VF := fun i => match Nat.beq i 11 with
  | true => .agg #[junk, junk]
  | false => match WR47 i with
  | true => junk
  | false => v i
def BR47 (i : Nat) : Bool := (Nat.beq i 0 || Nat.beq i 3 || (Nat.ble 6 i && Nat.ble i 8)) || WR47 i || Nat.beq i 11
theorem VR47_dead {v : VF} (h : ∀ i, DeadV (v i)) (i : Nat) : DeadV (VR47 v i) := by
  unfold VR47
  split
  · exact ⟨rfl, fun _ => rfl, fun _ => rfl⟩
  split
  · exact DeadV.junk
  · exact h i
theorem lvR47 (i : Nat) (h : (Nat.beq i 0 || Nat.beq i 3 || (Nat.ble 6 i && Nat.ble i 8)) = true) : BR47 i = true := jl (jl h)
def WXb47 (i : Nat) : Bool := Nat.beq i 9
noncomputable def VXb47 (v : VF) : VF := fun i => match WXb47 i with
  | true => junk
  | false => v i
def BXb47 (i : Nat) : Bool := (Nat.beq i 0 || Nat.beq i 3 || (Nat.ble 6 i && Nat.ble i 8)) || WXb47 i
theorem VXb47_dead {v : VF} (h : ∀ i, DeadV (v i)) (i : Nat) : DeadV (VXb47 v i) := jD (W := WXb47) h i
theorem lvXb47 (i : Nat) (h : (Nat.beq i 0 || Nat.beq i 3 || (Nat.ble 6 i && Nat.ble i 8)) = true) : BXb47 i = true := jl h
def WE47 (i : Nat) : Bool := Nat.beq i 3 || (Nat.ble 6 i && Nat.ble i 8) || Nat.beq i 26
noncomputable def VE47 (v : VF) : VF := fun i => match WE47 i with
  | true => junk
  | false => v i
def BE47 (i : Nat) : Bool := (Nat.beq i 0 || Nat.beq i 2) || WE47 i
theorem VE47_dead {v : VF} (h : ∀ i, DeadV (v i)) (i : Nat) : DeadV (VE47 v i) := jD (W := WE47) h i
theorem lvE47 (i : Nat) (h : (Nat.beq i 0 || Nat.beq i 2) = true) : BE47 i = true := jl h
noncomputable def h47a (x : MX) : Nat → Option Ob := fun j => match j with
  | 0 => some (.fam x.F)
  | _ => none
theorem h47a_ok (x : MX) : Go.Cln.RowsIn (h47a x) := by
  intro b n' w' g' t h
  unfold h47a at h
  split at h <;> cases h
noncomputable def s47a (x : MX) (P n c : Nat) (i : Nat) (v : VF) : St := ⟨tm47a v P n c i, [], Tr.rebuild (h47a x) 1, 1, 1, [], fun _ => false, True, []⟩
noncomputable def h47b (x : MX) (M : List Int) : Nat → Option Ob := fun j => match j with
  | 0 => some (.fam x.F)
  | 1 => some (.cells (.ints .u8 M) 5)
  | _ => none
theorem h47b_ok (x : MX) (M : List Int) : Go.Cln.RowsIn (h47b x M) := by
  intro b n' w' g' t h
  unfold h47b at h
  split at h <;> cases h
noncomputable def s47b (x : MX) (P n c : Nat) (M : List Int) (m k i : Nat) (v : VF) : St := ⟨tm47b v P n c m k i, [], Tr.rebuild (h47b x M) 2, 2, 1, [], fun _ => false, True, []⟩
noncomputable def s47r (x : MX) (P n c : Nat) (M : List Int) (u : Value) (v : VF) : St := ⟨tm47r v P n c u, [], Tr.rebuild (h47b x M) 2, 2, 1, [], fun _ => false, True, []⟩
noncomputable def s47t (x : MX) (P n c : Nat) (u : Value) (v : VF) : St := ⟨tm47r v P n c u, [], Tr.rebuild (h47a x) 2, 2, 1, [], fun _ => false, True, []⟩
noncomputable def rowK2 (x : MX) (P i : Nat) : List Int := ((x.D (x.CQ P (ix2 i))).drop 0).take (x.CM P (ix2 i))
noncomputable def two47 (x : MX) (P i : Nat) : List Int := [x.CK P (ix2 i), IntKind.u8.wrap (nI (x.CM P (ix2 i)))]
noncomputable def N47a (x : MX) (P i : Nat) : List Int := (((two47 x P i).drop 0).take 2) ++ rowK2 x P i
noncomputable def N47az (x : MX) (P i : Nat) : List Int := layI (two47 x P i) (0 + 2) (rowK2 x P i)
noncomputable def M47 (x : MX) (P : Nat) (M : List Int) (m i : Nat) : List Int := ((M.drop 0).take m) ++ two47 x P i
noncomputable def N47b (x : MX) (P : Nat) (M : List Int) (m i : Nat) : List Int := (((M47 x P M m i).drop 0).take (m + 2)) ++ rowK2 x P i
noncomputable def N47bz (x : MX) (P : Nat) (M : List Int) (m i : Nat) : List Int := layI (M47 x P M m i) (0 + (m + 2)) (rowK2 x P i)
theorem kD47 (x : MX) (P n c : Nat) : (gd47 KN (z47 x P n c) []).map (fun r => (r.2, r.1.obl, seenInT BD47 r.1 (s47a x P n c 0 (VD47 vU)) [0])) = some (.loop l47, True, seenAsT BD47 (s47a x P n c 0 (VD47 vU)) [0] 1) := by kernel_rfl
def p47Af (x : MX) (P n c : Nat) (i : Nat) : Prop := ((((((True ∧ decide (nI i < nI n) = true) ∧ (0 ≤ nI i ∧ nI i < nI n)) ∧ ((0 + i * 2) % 2 = 0 ∧ (0 + i * 2) / 2 < x.CN P)) ∧ decide (2 + x.CM P (ix2 i) ≤ 2) = false) ∧ ((x.CM P (ix2 i) = 0 ∨ 0 + x.CM P (ix2 i) ≤ (x.D (x.CQ P (ix2 i))).length) ∧ 0 + 2 ≤ (two47 x P i).length ∧ (2 + x.CM P (ix2 i)) * 1 ≤ mostBytes ∧ 2 + x.CM P (ix2 i) ≤ mostBytes)) ∧ IntKind.i64.wrap (nI i + 1) = nI i + 1)
theorem k47Af (x : MX) (P n c : Nat) (i : Nat) (v : VF) : (go47 KN l47 (s47a x P n c i v) [some true, some true, some false, some true, none, some false, some true, some true]).map (fun r => (r.1, r.2.obl, seenInT BR47 r.2 (s47b x P n c (N47a x P i) (2 + x.CM P (ix2 i)) (2 + x.CM P (ix2 i)) (i + 1) (VR47 v)) [0, 4])) = some (.normal, p47Af x P n c i, seenAsT BR47 (s47b x P n c (N47a x P i) (2 + x.CM P (ix2 i)) (2 + x.CM P (ix2 i)) (i + 1) (VR47 v)) [0, 4] 5) := by kernel_rfl
def p47At (x : MX) (P n c : Nat) (i : Nat) : Prop := ((((((True ∧ decide (nI i < nI n) = true) ∧ (0 ≤ nI i ∧ nI i < nI n)) ∧ ((0 + i * 2) % 2 = 0 ∧ (0 + i * 2) / 2 < x.CN P)) ∧ decide (2 + x.CM P (ix2 i) ≤ 2) = true) ∧ ((x.CM P (ix2 i) = 0 ∨ 0 + x.CM P (ix2 i) ≤ (x.D (x.CQ P (ix2 i))).length) ∧ 0 + 2 + x.CM P (ix2 i) ≤ (two47 x P i).length)) ∧ IntKind.i64.wrap (nI i + 1) = nI i + 1)
theorem k47At (x : MX) (P n c : Nat) (i : Nat) (v : VF) : (go47 KN l47 (s47a x P n c i v) [some true, some true, some false, some true, none, some true, some true, some true]).map (fun r => (r.1, r.2.obl, seenInT BR47 r.2 (s47b x P n c (N47az x P i) (2 + x.CM P (ix2 i)) 2 (i + 1) (VR47 v)) [0, 3])) = some (.normal, p47At x P n c i, seenAsT BR47 (s47b x P n c (N47az x P i) (2 + x.CM P (ix2 i)) 2 (i + 1) (VR47 v)) [0, 3] 4) := by kernel_rfl
def p47Bf (x : MX) (P n c : Nat) (M : List Int) (m k i : Nat) : Prop := ((((((((True ∧ decide (nI i < nI n) = true) ∧ (0 ≤ nI i ∧ nI i < nI n)) ∧ ((0 + i * 2) % 2 = 0 ∧ (0 + i * 2) / 2 < x.CN P)) ∧ decide (m + 2 ≤ k) = false) ∧ (0 + 2 ≤ (two47 x P i).length ∧ 0 + m ≤ M.length ∧ (m + 2) * 1 ≤ mostBytes ∧ m + 2 ≤ mostBytes)) ∧ decide (m + 2 + x.CM P (ix2 i) ≤ m + 2) = false) ∧ ((x.CM P (ix2 i) = 0 ∨ 0 + x.CM P (ix2 i) ≤ (x.D (x.CQ P (ix2 i))).length) ∧ 0 + (m + 2) ≤ (M47 x P M m i).length ∧ (m + 2 + x.CM P (ix2 i)) * 1 ≤ mostBytes ∧ m + 2 + x.CM P (ix2 i) ≤ mostBytes)) ∧ IntKind.i64.wrap (nI i + 1) = nI i + 1)
theorem k47Bf (x : MX) (P n c : Nat) (M : List Int) (m k i : Nat) (v : VF) : (go47 KN l47 (s47b x P n c M m k i v) [some true, some true, some false, some true, none, some false, some false, some true, some true]).map (fun r => (r.1, r.2.obl, seenInT BR47 r.2 (s47b x P n c (N47b x P M m i) (m + 2 + x.CM P (ix2 i)) (m + 2 + x.CM P (ix2 i)) (i + 1) (VR47 v)) [0, 5])) = some (.normal, p47Bf x P n c M m k i, seenAsT BR47 (s47b x P n c (N47b x P M m i) (m + 2 + x.CM P (ix2 i)) (m + 2 + x.CM P (ix2 i)) (i + 1) (VR47 v)) [0, 5] 6) := by kernel_rfl
def p47Bt (x : MX) (P n c : Nat) (M : List Int) (m k i : Nat) : Prop := ((((((((True ∧ decide (nI i < nI n) = true) ∧ (0 ≤ nI i ∧ nI i < nI n)) ∧ ((0 + i * 2) % 2 = 0 ∧ (0 + i * 2) / 2 < x.CN P)) ∧ decide (m + 2 ≤ k) = false) ∧ (0 + 2 ≤ (two47 x P i).length ∧ 0 + m ≤ M.length ∧ (m + 2) * 1 ≤ mostBytes ∧ m + 2 ≤ mostBytes)) ∧ decide (m + 2 + x.CM P (ix2 i) ≤ m + 2) = true) ∧ ((x.CM P (ix2 i) = 0 ∨ 0 + x.CM P (ix2 i) ≤ (x.D (x.CQ P (ix2 i))).length) ∧ 0 + (m + 2) + x.CM P (ix2 i) ≤ (M47 x P M m i).length)) ∧ IntKind.i64.wrap (nI i + 1) = nI i + 1)
theorem k47Bt (x : MX) (P n c : Nat) (M : List Int) (m k i : Nat) (v : VF) : (go47 KN l47 (s47b x P n c M m k i v) [some true, some true, some false, some true, none, some false, some true, some true, some true]).map (fun r => (r.1, r.2.obl, seenInT BR47 r.2 (s47b x P n c (N47bz x P M m i) (m + 2 + x.CM P (ix2 i)) (m + 2) (i + 1) (VR47 v)) [0, 4])) = some (.normal, p47Bt x P n c M m k i, seenAsT BR47 (s47b x P n c (N47bz x P M m i) (m + 2 + x.CM P (ix2 i)) (m + 2) (i + 1) (VR47 v)) [0, 4] 5) := by kernel_rfl
theorem ok47R (x0 x : MX) (P n c : Nat) (M : List Int) (m k i b : Nat) (v : VF) (hb : b = 3 ∨ b = 4 ∨ b = 5) : picOkT BR47 (z47 x0 P n c) (s47b x P n c M m k i (VR47 v)) [0, b] = true := by
  rcases hb with rfl | rfl | rfl
  · kernel_rfl
  · kernel_rfl
  · kernel_rfl
theorem ok47D (x0 x : MX) (P n c : Nat) (i : Nat) (v : VF) : picOkT BD47 (z47 x0 P n c) (s47a x P n c i (VD47 v)) [0] = true := by kernel_rfl
theorem k47Xb (x : MX) (P n c : Nat) (M : List Int) (m k i : Nat) (v : VF) : (go47 KN l47 (s47b x P n c M m k i v) [some false]).map (fun r => (r.1, r.2.obl, seenInT BXb47 r.2 (s47b x P n c M m k i (VXb47 v)) [0, 1])) = some (.exit 0, True ∧ decide (nI i < nI n) = false, seenAsT BXb47 (s47b x P n c M m k i (VXb47 v)) [0, 1] 2) := by kernel_rfl
theorem ok47Xb (x0 x : MX) (P n c : Nat) (M : List Int) (m k i : Nat) (v : VF) : picOkT BXb47 (z47 x0 P n c) (s47b x P n c M m k i (VXb47 v)) [0, 1] = true := by kernel_rfl
theorem k47Eb (x : MX) (P n c : Nat) (M : List Int) (m k i : Nat) (v : VF) : (go47 KN e47 (s47b x P n c M m k i v) []).map (fun r => (r.1, r.2.obl, seenInT BE47 r.2 (s47r x P n c M (.slice (some ⟨1, 0, some 1⟩) m k) (VE47 v)) [0, 1])) = some (.ret, True, seenAsT BE47 (s47r x P n c M (.slice (some ⟨1, 0, some 1⟩) m k) (VE47 v)) [0, 1] 2) := by kernel_rfl
theorem ok47Eb (x0 x : MX) (P n c : Nat) (M : List Int) (m k : Nat) (v : VF) : picOkT BE47 (z47 x0 P n c) (s47r x P n c M (.slice (some ⟨1, 0, some 1⟩) m k) (VE47 v)) [0, 1] = true := by kernel_rfl
theorem up47 (x : MX) (P n c : Nat) (ρ0 : Nat → PB) (W0 : World) (Q_ : Exit → St → Prop) : upW Try.prog none (z47 x P n c) ρ0 W0 [2, 2, 3, 2, 0] b47 Q_ = fun e s => (fun e s => (e = .normal ∧ StepW Try.prog none (z47 x P n c) ρ0 W0 e47 s Q_) ∨ (e ≠ .normal ∧ Q_ e s)) (blockOut 0 e) s := by kernel_rfl
end
end ob
end Go.Proofs.Ytpfmilkddapfiaa
namespace Go.Proofs.Ytpfmilkddapfiaa
open Go.ChangeShapes Go.WideShapes Go.ChangeAt Go.RowKit Go.Cln
namespace ob
set_option linter.unusedVariables false
noncomputable section
noncomputable def acc47 (x : MX) (P : Nat) : Nat → List Int
  | 0 => []
  | i + 1 => acc47 x P i ++ (two47 x P i ++ rowK2 x P i)
def capOk5 (x : MX) (P n : Nat) : Prop := n ≤ x.CN P ∧ n ≤ 5000 ∧ ∀ i, i < n → bytOk x (x.CQ P i) (x.CM P i)
theorem rowK20 {x : MX} {P i : Nat} (h : x.CM P (ix2 i) = 0) : rowK2 x P i = [] := by unfold rowK2; rw [h, List.take_zero]
theorem rowK2_len {x : MX} {P i : Nat} (h : x.CM P (ix2 i) ≤ (x.D (x.CQ P (ix2 i))).length) : (rowK2 x P i).length = x.CM P (ix2 i) := by
  unfold rowK2; rw [List.drop_zero, List.length_take]; omega
theorem two47_len (x : MX) (P i : Nat) : (two47 x P i).length = 2 := rfl
theorem N47a_eq (x : MX) (P i : Nat) : N47a x P i = two47 x P i ++ rowK2 x P i := rfl
theorem N47az_eq {x : MX} {P i : Nat} (h : x.CM P (ix2 i) = 0) : N47az x P i = two47 x P i ++ rowK2 x P i := by
  unfold N47az; rw [rowK20 h, layE, List.append_nil]
theorem M47_eq {x : MX} {P : Nat} {M : List Int} {m i : Nat} (hm : M.length = m) : M47 x P M m i = M ++ two47 x P i := by
  unfold M47; rw [List.drop_zero, List.take_of_length_le (by omega)]
theorem N47b_eq {x : MX} {P : Nat} {M : List Int} {m i : Nat} (hm : M.length = m) : N47b x P M m i = M ++ (two47 x P i ++ rowK2 x P i) := by
  unfold N47b
  rw [M47_eq hm, List.drop_zero, List.take_of_length_le (by rw [List.length_append, hm]; exact Nat.le_refl _), List.append_assoc]
theorem N47bz_eq {x : MX} {P : Nat} {M : List Int} {m i : Nat} (hm : M.length = m) (h : x.CM P (ix2 i) = 0) : N47bz x P M m i = M ++ (two47 x P i ++ rowK2 x P i) := by
  unfold N47bz
  rw [M47_eq hm, rowK20 h, layE, List.append_nil]
theorem acc47_len {x : MX} {P n : Nat} (hO : capOk5 x P n) : ∀ i, i ≤ n → (acc47 x P i).length ≤ i * 1002 := by
  obtain ⟨p1, p2, p3⟩ := hO
  intro i
  induction i with
  | zero => intro _; exact Nat.le_refl _
  | succ i ih =>
    intro hi
    have := ih (by omega)
    obtain ⟨b1, b2⟩ := p3 i (by omega)
    have hr : (rowK2 x P i).length = x.CM P i := by have := rowK2_len (x := x) (P := P) (i := i) (by rw [ix2_eq]; exact b1); rwa [ix2_eq] at this
    unfold acc47
    rw [List.length_append, List.length_append, two47_len, hr]
    omega
theorem z47_base (x : MX) (P n c : Nat) (b : Nat) (o : Ob) (h : (z47 x P n c).heap.get b = some o) : (z47 x P n c).may b = false := by
  obtain ⟨rfl, _⟩ := fam_get (orc := []) (show (smSt 1 [some (.fam x.F)] []).heap.get b = some o from h)
  rfl
theorem took47r (x : MX) (P n c : Nat) (M : List Int) (m k Q c' : Nat) (v : VF) : TookT (s47r x P n c M (.slice (some ⟨1, 0, some 1⟩) m k) v) (s47t (x.wD (updF x.D Q M)) P n c (PB_ Q m c') v) x.F (fun g => Nat.beq g 1000) 1000 1 2 (.ints .u8 M) m Q c' where
  next := rfl
  roB := rfl
  ro := rfl
  hid := rfl
  defers := rfl
  tmps := rfl
  zero := by rw [← putB_F]; kernel_rfl
  gone := by kernel_rfl
  rest := fun j h0 hb => by
    show (Tr.rebuild _ _).get j = (Tr.rebuild _ _).get j
    rw [Tr.get_rebuild _ _ _ (by decide), Tr.get_rebuild _ _ _ (by decide)]
    split
    · rcases j with _ | _ | j
      · exact absurd rfl h0
      · exact absurd rfl hb
      · rfl
    · rfl
theorem g47r0 (x : MX) (P n c : Nat) (M : List Int) (u : Value) (v : VF) : (s47r x P n c M u v).heap.get 0 = some (.fam x.F) := by kernel_rfl
theorem g47r1 (x : MX) (P n c : Nat) (M : List Int) (u : Value) (v : VF) : (s47r x P n c M u v).heap.get 1 = some (.cells (.ints .u8 M) 5) := by kernel_rfl
theorem g47t0 (x : MX) (P n c : Nat) (u : Value) (v : VF) : (s47t x P n c u v).heap.get 0 = some (.fam x.F) := by kernel_rfl
theorem caps47 {x : MX} {P n c : Nat} (hn : 0 < n) (hO : capOk5 x P n) : MkOk Try.prog x.F 47 [PC P n c] (BytesR x (acc47 x P n)) := by
  refine mk_fn (s0 := z47 x P n c) rfl fn47 fun ρ0 W0 => ?_
  have hlen := acc47_len hO
  obtain ⟨p1, p2, p3⟩ := hO
  refine StepW.downs pg KN_ok (kD47 x P n c) trivial (tm47a_dead (VD47_dead vU_dead) lvD47) (h47a_ok x) rfl (ok47D x x P n c 0 vU) ?_
  rw [up47]
  refine (runLoopW (id := 0) (N := n) (I := fun i s => (i = 0 ∧ ∃ v, (∀ j, DeadV (v j)) ∧ s = s47a x P n c 0 v) ∨ (0 < i ∧ ∃ v, (∀ j, DeadV (v j)) ∧ s = s47b x P n c (acc47 x P i) (acc47 x P i).length (acc47 x P i).length i v)) (J := fun s => ∃ v, (∀ j, DeadV (v j)) ∧ s = s47b x P n c (acc47 x P n) (acc47 x P n).length (acc47 x P n).length n v) ?_ ?_ (.inl ⟨rfl, VD47 vU, VD47_dead vU_dead, rfl⟩)).mono ?_
  · intro i s hi hI
    obtain ⟨b1, b2⟩ := p3 i hi
    have e3 := ix2_eq i
    have hr : (rowK2 x P i).length = x.CM P (ix2 i) := rowK2_len (by rw [e3]; exact b1)
    have c1 : decide (nI i < nI n) = true := decide_eq_true (by unfold nI; omega)
    have c2 : 0 ≤ nI i ∧ nI i < nI n := by unfold nI; omega
    have c3 : (0 + i * 2) % 2 = 0 ∧ (0 + i * 2) / 2 < x.CN P := by omega
    have cw : IntKind.i64.wrap (nI i + 1) = nI i + 1 := by rw [IntKind.wrap_i64]; unfold nI; omega
    have hb3 : x.CM P (ix2 i) ≤ (x.D (x.CQ P (ix2 i))).length := by rw [e3]; exact b1
    have hc3 : x.CM P (ix2 i) ≤ 1000 := by rw [e3]; exact b2
    have hl := hlen i (by omega)
    rcases hI with ⟨rfl, v, hv, rfl⟩ | ⟨h0, v, hv, rfl⟩
    · have ha : acc47 x P (0 + 1) = two47 x P 0 ++ rowK2 x P 0 := rfl
      have hal : (acc47 x P (0 + 1)).length = 2 + x.CM P (ix2 0) := by rw [ha, List.length_append, two47_len, hr]
      by_cases hz : x.CM P (ix2 0) = 0
      · refine ((StepG.stdT (s0 := z47 x P n c) (rd := none) pg KN_ok (k47At x P n c 0 v) ⟨⟨⟨⟨⟨⟨trivial, c1⟩, c2⟩, c3⟩, decide_eq_true (by omega)⟩, .inl hz, by rw [two47_len]; omega⟩, cw⟩ (show 1 ≤ 1 by decide) (tm47b_dead (VR47_dead hv) lvR47) (h47b_ok x _) rfl (ok47R x x P n c _ _ _ 1 3 v (.inl rfl))).at ρ0 W0).mono ?_
        rintro e s ⟨rfl, rfl⟩
        refine ⟨rfl, .inr ⟨by omega, VR47 v, VR47_dead hv, ?_⟩⟩
        rw [hal, ha, N47az_eq hz, hz]
      · refine ((StepG.stdT (s0 := z47 x P n c) (rd := none) pg KN_ok (k47Af x P n c 0 v) ⟨⟨⟨⟨⟨⟨trivial, c1⟩, c2⟩, c3⟩, decide_eq_false (by omega)⟩, .inr (by omega), by rw [two47_len]; omega, by unfold mostBytes; omega, by unfold mostBytes; omega⟩, cw⟩ (show 1 ≤ 1 by decide) (tm47b_dead (VR47_dead hv) lvR47) (h47b_ok x _) rfl (ok47R x x P n c _ _ _ 1 4 v (.inr (.inl rfl)))).at ρ0 W0).mono ?_
        rintro e s ⟨rfl, rfl⟩
        refine ⟨rfl, .inr ⟨by omega, VR47 v, VR47_dead hv, ?_⟩⟩
        rw [hal, ha, N47a_eq]
    · have ha : acc47 x P (i + 1) = acc47 x P i ++ (two47 x P i ++ rowK2 x P i) := rfl
      have hal : (acc47 x P (i + 1)).length = (acc47 x P i).length + 2 + x.CM P (ix2 i) := by rw [ha, List.length_append, List.length_append, two47_len, hr]; omega
      by_cases hz : x.CM P (ix2 i) = 0
      · refine ((StepG.stdT (s0 := z47 x P n c) (rd := none) pg KN_ok (k47Bt x P n c (acc47 x P i) _ _ i v) ⟨⟨⟨⟨⟨⟨⟨⟨trivial, c1⟩, c2⟩, c3⟩, decide_eq_false (by omega)⟩, by rw [two47_len]; omega, by omega, by unfold mostBytes; omega, by unfold mostBytes; omega⟩, decide_eq_true (by omega)⟩, .inl hz, by rw [M47_eq rfl, List.length_append, two47_len]; omega⟩, cw⟩ (show 1 ≤ 2 by decide) (tm47b_dead (VR47_dead hv) lvR47) (h47b_ok x _) rfl (ok47R x x P n c _ _ _ (i + 1) 4 v (.inr (.inl rfl)))).at ρ0 W0).mono ?_
        rintro e s ⟨rfl, rfl⟩
        refine ⟨rfl, .inr ⟨by omega, VR47 v, VR47_dead hv, ?_⟩⟩
        rw [hal, ha, N47bz_eq rfl hz, hz]
      · refine ((StepG.stdT (s0 := z47 x P n c) (rd := none) pg KN_ok (k47Bf x P n c (acc47 x P i) _ _ i v) ⟨⟨⟨⟨⟨⟨⟨⟨trivial, c1⟩, c2⟩, c3⟩, decide_eq_false (by omega)⟩, by rw [two47_len]; omega, by omega, by unfold mostBytes; omega, by unfold mostBytes; omega⟩, decide_eq_false (by omega)⟩, .inr (by omega), by rw [M47_eq rfl, List.length_append, two47_len]; omega, by unfold mostBytes; omega, by unfold mostBytes; omega⟩, cw⟩ (show 1 ≤ 2 by decide) (tm47b_dead (VR47_dead hv) lvR47) (h47b_ok x _) rfl (ok47R x x P n c _ _ _ (i + 1) 5 v (.inr (.inr rfl)))).at ρ0 W0).mono ?_
        rintro e s ⟨rfl, rfl⟩
        refine ⟨rfl, .inr ⟨by omega, VR47 v, VR47_dead hv, ?_⟩⟩
        rw [hal, ha, N47b_eq rfl]
  · rintro s (⟨h0, _⟩ | ⟨h0, v, hv, rfl⟩)
    · omega
    · refine ((StepG.stdT (s0 := z47 x P n c) (rd := none) pg KN_ok (k47Xb x P n c _ _ _ n v) ⟨trivial, decide_eq_false (by omega)⟩ (show 1 ≤ 2 by decide) (tm47b_dead (VXb47_dead hv) lvXb47) (h47b_ok x _) rfl (ok47Xb x x P n c _ _ _ n v)).at ρ0 W0).mono ?_
      rintro e s ⟨rfl, rfl⟩
      exact ⟨rfl, VXb47 v, VXb47_dead hv, rfl⟩
  · rintro e s ⟨rfl, v, hv, rfl⟩
    refine .inl ⟨rfl, ?_⟩
    refine StepW.turn ((StepG.stdT (s0 := z47 x P n c) (rd := none) pg KN_ok (k47Eb x P n c (acc47 x P n) _ _ n v) trivial (show 1 ≤ 2 by decide) (tm47r_dead (VE47_dead hv) lvE47) (h47b_ok x _) rfl (ok47Eb x x P n c _ _ _ v)).at ρ0 W0) ?_
    rintro e s w a' ⟨rfl, rfl⟩ hs0 hp
    obtain ⟨Q, c', hc, hP, hk, hp2⟩ := PicG.takeT (sg := 1000) (i := 2) (b := 1) (p := fun g => Nat.beq g 1000) (c := .ints .u8 (acc47 x P n)) (fun Q c' => s47t (x.wD (updF x.D Q (acc47 x P n))) P n c (PB_ Q (acc47 x P n).length c') (VE47 v)) hp (g47r0 x P n c _ _ _) (g47r1 x P n c _ _ _) ints_fam rfl (by decide) rfl rfl rfl (z47_base x P n c) (fun Q c' => took47r x P n c _ _ _ Q c' _)
    rw [← putB_F] at hk
    refine ⟨_, ⟨rfl, rfl, _, ([PB_ Q (acc47 x P n).length c'], s47t (x.wD (updF x.D Q (acc47 x P n))) P n c (PB_ Q (acc47 x P n).length c') (VE47 v)), g47t0 _ P n c _ _, ?_, rfl, trivial, rfl, _, Q, c', rfl, rfl, hk, updF_at _ _ _⟩, hp2⟩
    rw [putB_F]; exact (Fresh.refl _ _).put hP
end
end ob
end Go.Proofs.Ytpfmilkddapfiaa
