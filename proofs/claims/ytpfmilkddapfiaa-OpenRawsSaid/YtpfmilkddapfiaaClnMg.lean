/- Read off the code by the clean reading. -/
import Derived.Test.YtpfmilkddapfiaaClnMf
import Derived.Test.YtpfmilkddapfiaaClnQd
set_option linter.unusedVariables false
set_option linter.unusedSimpArgs false
set_option linter.deprecated false
set_option maxRecDepth 100000
namespace Go.Proofs.Ytpfmilkddapfiaa
open Go.ChangeShapes Go.WideShapes Go.ChangeAt Go.RowKit Go.Cln
namespace ob
set_option linter.unusedVariables false
noncomputable section
def b29 : Code := ((Try.prog.funcs[29]?).bind (·.body)).getD .skip
theorem fn29 : (Try.prog.funcs[29]?).map (fun f => (f.body, f.results.toList, f.ntmps)) = some (some b29, [.tmp 2], 56) := by kernel_rfl
def l29 : Code := loopB Try.prog 29 0
noncomputable def z29 (x : MX) (a : OV) : St := { smSt 1 [some (.fam x.F)] [] with tmps := [a.v] ++ List.replicate 55 undef, defers := [] }
noncomputable def go29 (K : Given) (c : Code) (s : St) (o : List (Option Bool)) : Option (Exit × St) := (mk Try.prog K 300).code 29 none c { s with obl := True, orc := o }
noncomputable def gd29 (K : Given) (s : St) (o : List (Option Bool)) : Option (St × Code) := down (mk Try.prog K 300) 29 none [2, 2, 3, 2, 0] b29 { s with obl := True, orc := o }
noncomputable def tm29a (v : VF) (a : OV) (i : Nat) : List Value := (a.v :: .pointer (some ⟨1, 0, none⟩) :: v 2 :: .slice (some ⟨2, 0, none⟩) 6 6 :: .int .i64 (nI i) :: vs v 5 51 [])
theorem tm29a_dead {v : VF} {a : OV} {i : Nat} {B : Nat → Bool} (h : ∀ i, DeadV (v i)) (hB : ∀ i, ((Nat.ble 0 i && Nat.ble i 1) || (Nat.ble 3 i && Nat.ble i 4)) = true → B i = true) : deadT B 0 (tm29a v a i) :=
  dl (hB 0 rfl) (dl (hB 1 rfl) (dn (h 2) (dl (hB 3 rfl) (dl (hB 4 rfl) (deadT_vs h 51 (trivial))))))
noncomputable def tm29b (v : VF) (a : OV) (m c i : Nat) : List Value := (a.v :: .pointer (some ⟨1, 0, none⟩) :: v 2 :: .slice (some ⟨2, 0, some 1⟩) m c :: .int .i64 (nI i) :: vs v 5 51 [])
theorem tm29b_dead {v : VF} {a : OV} {m c i : Nat} {B : Nat → Bool} (h : ∀ i, DeadV (v i)) (hB : ∀ i, ((Nat.ble 0 i && Nat.ble i 1) || (Nat.ble 3 i && Nat.ble i 4)) = true → B i = true) : deadT B 0 (tm29b v a m c i) :=
  dl (hB 0 rfl) (dl (hB 1 rfl) (dn (h 2) (dl (hB 3 rfl) (dl (hB 4 rfl) (deadT_vs h 51 (trivial))))))
noncomputable def tm29r (v : VF) (a : OV) (u : Value) : List Value := (a.v :: .pointer (some ⟨1, 0, none⟩) :: u :: vs v 3 53 [])
theorem tm29r_dead {v : VF} {a : OV} {u : Value} {B : Nat → Bool} (h : ∀ i, DeadV (v i)) (hB : ∀ i, ((Nat.ble 0 i && Nat.ble i 2)) = true → B i = true) : deadT B 0 (tm29r v a u) :=
  dl (hB 0 rfl) (dl (hB 1 rfl) (dl (hB 2 rfl) (deadT_vs h 53 (trivial))))
def WD29 (i : Nat) : Bool := Nat.beq i 2 || (Nat.ble 5 i && Nat.ble i 23)
noncomputable def VD29 (v : VF) : VF := fun i => match WD29 i with
  | true => junk
  | false => v i
def BD29 (i : Nat) : Bool := ((Nat.ble 0 i && Nat.ble i 1) || (Nat.ble 3 i && Nat.ble i 4)) || WD29 i
theorem VD29_dead {v : VF} (h : ∀ i, DeadV (v i)) (i : Nat) : DeadV (VD29 v i) := jD (W := WD29) h i
theorem lvD29 (i : Nat) (h : ((Nat.ble 0 i && Nat.ble i 1) || (Nat.ble 3 i && Nat.ble i 4)) = true) : BD29 i = true := jl h
def WR29 (i : Nat) : Bool := (Nat.ble 24 i && Nat.ble i 54)
noncomputable def VR29 (v : VF) : VF := fun i => match WR29 i with
  | true => junk
  | false => v i
def BR29 (i : Nat) : Bool := ((Nat.ble 0 i && Nat.ble i 1) || (Nat.ble 3 i && Nat.ble i 4)) || WR29 i
theorem VR29_dead {v : VF} (h : ∀ i, DeadV (v i)) (i : Nat) : DeadV (VR29 v i) := jD (W := WR29) h i
theorem lvR29 (i : Nat) (h : ((Nat.ble 0 i && Nat.ble i 1) || (Nat.ble 3 i && Nat.ble i 4)) = true) : BR29 i = true := jl h
def WXa29 (i : Nat) : Bool := (Nat.ble 24 i && Nat.ble i 28)
noncomputable def VXa29 (v : VF) : VF := fun i => match WXa29 i with
  | true => junk
  | false => v i
def BXa29 (i : Nat) : Bool := ((Nat.ble 0 i && Nat.ble i 1) || (Nat.ble 3 i && Nat.ble i 4)) || WXa29 i
theorem VXa29_dead {v : VF} (h : ∀ i, DeadV (v i)) (i : Nat) : DeadV (VXa29 v i) := jD (W := WXa29) h i
theorem lvXa29 (i : Nat) (h : ((Nat.ble 0 i && Nat.ble i 1) || (Nat.ble 3 i && Nat.ble i 4)) = true) : BXa29 i = true := jl h
def WXb29 (i : Nat) : Bool := (Nat.ble 24 i && Nat.ble i 28)
noncomputable def VXb29 (v : VF) : VF := fun i => match WXb29 i with
  | true => junk
  | false => v i
def BXb29 (i : Nat) : Bool := ((Nat.ble 0 i && Nat.ble i 1) || (Nat.ble 3 i && Nat.ble i 4)) || WXb29 i
theorem VXb29_dead {v : VF} (h : ∀ i, DeadV (v i)) (i : Nat) : DeadV (VXb29 v i) := jD (W := WXb29) h i
theorem lvXb29 (i : Nat) (h : ((Nat.ble 0 i && Nat.ble i 1) || (Nat.ble 3 i && Nat.ble i 4)) = true) : BXb29 i = true := jl h
def WE29 (i : Nat) : Bool := (Nat.ble 3 i && Nat.ble i 4) || Nat.beq i 55
noncomputable def VE29 (v : VF) : VF := fun i => match WE29 i with
  | true => junk
  | false => v i
def BE29 (i : Nat) : Bool := ((Nat.ble 0 i && Nat.ble i 2)) || WE29 i
theorem VE29_dead {v : VF} (h : ∀ i, DeadV (v i)) (i : Nat) : DeadV (VE29 v i) := jD (W := WE29) h i
theorem lvE29 (i : Nat) (h : ((Nat.ble 0 i && Nat.ble i 2)) = true) : BE29 i = true := jl h
noncomputable def L0 (a : OV) : List Int := [65, 4, IntKind.u8.wrap (IntKind.u32.wrap (a.asn.tdiv 16777216)), IntKind.u8.wrap ((IntKind.u32.wrap (a.asn.tdiv 65536)).tmod 256), IntKind.u8.wrap ((IntKind.u32.wrap (a.asn.tdiv 256)).tmod 256), IntKind.u8.wrap (a.asn.tmod 256)]
noncomputable def h29a (x : MX) (a : OV) : Nat → Option Ob := fun j => match j with
  | 0 => some (.fam x.F)
  | 1 => some (.cells (.lit a.l) 26)
  | 2 => some (.cells (.lit ((L0 a).map (Value.int .u8))) 5)
  | _ => none
theorem h29a_ok (x : MX) (a : OV) : Go.Cln.RowsIn (h29a x a) := by
  intro b n' w' g' t h
  unfold h29a at h
  split at h <;> cases h
noncomputable def s29a (x : MX) (a : OV) (i : Nat) (v : VF) : St := ⟨tm29a v a i, [], Tr.rebuild (h29a x a) 3, 3, 1, [], fun _ => false, True, []⟩
noncomputable def h29b (x : MX) (a : OV) (M : List Int) : Nat → Option Ob := fun j => match j with
  | 0 => some (.fam x.F)
  | 1 => some (.cells (.lit a.l) 26)
  | 2 => some (.cells (.ints .u8 M) 5)
  | _ => none
theorem h29b_ok (x : MX) (a : OV) (M : List Int) : Go.Cln.RowsIn (h29b x a M) := by
  intro b n' w' g' t h
  unfold h29b at h
  split at h <;> cases h
noncomputable def s29b (x : MX) (a : OV) (M : List Int) (m c i : Nat) (v : VF) : St := ⟨tm29b v a m c i, [], Tr.rebuild (h29b x a M) 3, 3, 1, [], fun _ => false, True, []⟩
noncomputable def s29r (x : MX) (a : OV) (M : List Int) (u : Value) (v : VF) : St := ⟨tm29r v a u, [], Tr.rebuild (h29b x a M) 3, 3, 1, [], fun _ => false, True, []⟩
noncomputable def s29q (x : MX) (a : OV) (u : Value) (v : VF) : St := ⟨tm29r v a u, [], Tr.rebuild (h29a x a) 3, 3, 1, [], fun _ => false, True, []⟩
noncomputable def two29 (x : MX) (a : OV) (i : Nat) : List Int := [x.CK a.P (ix2 i), IntKind.u8.wrap (nI (x.CM a.P (ix3 i)))]
noncomputable def N29a (x : MX) (a : OV) (i : Nat) : List Int := (((L0 a ++ two29 x a i).drop 0).take (6 + 2)) ++ rowK x a.P i
noncomputable def N29az (x : MX) (a : OV) (i : Nat) : List Int := layI (L0 a ++ two29 x a i) (0 + (6 + 2)) (rowK x a.P i)
noncomputable def M29 (x : MX) (a : OV) (M : List Int) (m i : Nat) : List Int := ((M.drop 0).take m) ++ two29 x a i
noncomputable def N29b (x : MX) (a : OV) (M : List Int) (m i : Nat) : List Int := (((M29 x a M m i).drop 0).take (m + 2)) ++ rowK x a.P i
noncomputable def N29bz (x : MX) (a : OV) (M : List Int) (m i : Nat) : List Int := layI (M29 x a M m i) (0 + (m + 2)) (rowK x a.P i)
def e29 : Code := sndC (sndC (sndC b29))
theorem kD29 (x : MX) (a : OV) : (gd29 KN (z29 x a) []).map (fun r => (r.2, r.1.obl, seenInT BD29 r.1 (s29a x a 0 (VD29 vU)) [0, 1, 2])) = some (.loop l29, True, seenAsT BD29 (s29a x a 0 (VD29 vU)) [0, 1, 2] 3) := by kernel_rfl
def p29Af (x : MX) (a : OV) (i : Nat) : Prop := ((((((((((True ∧ decide (nI i < nI a.n) = true) ∧ (0 ≤ nI i ∧ nI i < nI a.n)) ∧ ((0 + i * 2) % 2 = 0 ∧ (0 + i * 2) / 2 < x.CN a.P)) ∧ (0 ≤ nI i ∧ nI i < nI a.n)) ∧ ((0 + i * 2 + 1) % 2 = 1 ∧ (0 + i * 2 + 1) / 2 < x.CN a.P)) ∧ (0 ≤ nI i ∧ nI i < nI a.n)) ∧ ((0 + i * 2 + 1) % 2 = 1 ∧ (0 + i * 2 + 1) / 2 < x.CN a.P)) ∧ decide (6 + 2 + x.CM a.P (ix3 i) ≤ 6 + 2) = false) ∧ ((x.CM a.P (ix3 i) = 0 ∨ 0 + x.CM a.P (ix3 i) ≤ (x.D (x.CQ a.P (ix3 i))).length) ∧ 0 + (6 + 2) ≤ (L0 a ++ two29 x a i).length ∧ (6 + 2 + x.CM a.P (ix3 i)) * 1 ≤ mostBytes ∧ 6 + 2 + x.CM a.P (ix3 i) ≤ mostBytes)) ∧ IntKind.i64.wrap (nI i + 1) = nI i + 1)
theorem k29Af (x : MX) (a : OV) (i : Nat) (v : VF) : (go29 KN l29 (s29a x a i v) [some true, some true, some false, some true, some true, some false, none, some true, none, some true, some false, none, some true, some false, some true, some true]).map (fun r => (r.1, r.2.obl, seenInT BR29 r.2 (s29b x a (N29a x a i) (6 + 2 + x.CM a.P (ix3 i)) (6 + 2 + x.CM a.P (ix3 i)) (i + 1) (VR29 v)) [0, 1, 5])) = some (.normal, p29Af x a i, seenAsT BR29 (s29b x a (N29a x a i) (6 + 2 + x.CM a.P (ix3 i)) (6 + 2 + x.CM a.P (ix3 i)) (i + 1) (VR29 v)) [0, 1, 5] 6) := by kernel_rfl
def p29At (x : MX) (a : OV) (i : Nat) : Prop := ((((((((((True ∧ decide (nI i < nI a.n) = true) ∧ (0 ≤ nI i ∧ nI i < nI a.n)) ∧ ((0 + i * 2) % 2 = 0 ∧ (0 + i * 2) / 2 < x.CN a.P)) ∧ (0 ≤ nI i ∧ nI i < nI a.n)) ∧ ((0 + i * 2 + 1) % 2 = 1 ∧ (0 + i * 2 + 1) / 2 < x.CN a.P)) ∧ (0 ≤ nI i ∧ nI i < nI a.n)) ∧ ((0 + i * 2 + 1) % 2 = 1 ∧ (0 + i * 2 + 1) / 2 < x.CN a.P)) ∧ decide (6 + 2 + x.CM a.P (ix3 i) ≤ 6 + 2) = true) ∧ ((x.CM a.P (ix3 i) = 0 ∨ 0 + x.CM a.P (ix3 i) ≤ (x.D (x.CQ a.P (ix3 i))).length) ∧ 0 + (6 + 2) + x.CM a.P (ix3 i) ≤ (L0 a ++ two29 x a i).length)) ∧ IntKind.i64.wrap (nI i + 1) = nI i + 1)
theorem k29At (x : MX) (a : OV) (i : Nat) (v : VF) : (go29 KN l29 (s29a x a i v) [some true, some true, some false, some true, some true, some false, none, some true, none, some true, some false, none, some true, some true, some true]).map (fun r => (r.1, r.2.obl, seenInT BR29 r.2 (s29b x a (N29az x a i) (6 + 2 + x.CM a.P (ix3 i)) (6 + 2) (i + 1) (VR29 v)) [0, 1, 4])) = some (.normal, p29At x a i, seenAsT BR29 (s29b x a (N29az x a i) (6 + 2 + x.CM a.P (ix3 i)) (6 + 2) (i + 1) (VR29 v)) [0, 1, 4] 5) := by kernel_rfl
def p29Bf (x : MX) (a : OV) (M : List Int) (m c i : Nat) : Prop := ((((((((((((True ∧ decide (nI i < nI a.n) = true) ∧ (0 ≤ nI i ∧ nI i < nI a.n)) ∧ ((0 + i * 2) % 2 = 0 ∧ (0 + i * 2) / 2 < x.CN a.P)) ∧ (0 ≤ nI i ∧ nI i < nI a.n)) ∧ ((0 + i * 2 + 1) % 2 = 1 ∧ (0 + i * 2 + 1) / 2 < x.CN a.P)) ∧ (0 ≤ nI i ∧ nI i < nI a.n)) ∧ ((0 + i * 2 + 1) % 2 = 1 ∧ (0 + i * 2 + 1) / 2 < x.CN a.P)) ∧ decide (m + 2 ≤ c) = false) ∧ (0 + 2 ≤ (two29 x a i).length ∧ 0 + m ≤ M.length ∧ (m + 2) * 1 ≤ mostBytes ∧ m + 2 ≤ mostBytes)) ∧ decide (m + 2 + x.CM a.P (ix3 i) ≤ m + 2) = false) ∧ ((x.CM a.P (ix3 i) = 0 ∨ 0 + x.CM a.P (ix3 i) ≤ (x.D (x.CQ a.P (ix3 i))).length) ∧ 0 + (m + 2) ≤ (M29 x a M m i).length ∧ (m + 2 + x.CM a.P (ix3 i)) * 1 ≤ mostBytes ∧ m + 2 + x.CM a.P (ix3 i) ≤ mostBytes)) ∧ IntKind.i64.wrap (nI i + 1) = nI i + 1)
theorem k29Bf (x : MX) (a : OV) (M : List Int) (m c i : Nat) (v : VF) : (go29 KN l29 (s29b x a M m c i v) [some true, some true, some false, some true, some true, some false, none, some true, none, some true, some false, none, some true, some false, some false, some true]).map (fun r => (r.1, r.2.obl, seenInT BR29 r.2 (s29b x a (N29b x a M m i) (m + 2 + x.CM a.P (ix3 i)) (m + 2 + x.CM a.P (ix3 i)) (i + 1) (VR29 v)) [0, 1, 5])) = some (.normal, p29Bf x a M m c i, seenAsT BR29 (s29b x a (N29b x a M m i) (m + 2 + x.CM a.P (ix3 i)) (m + 2 + x.CM a.P (ix3 i)) (i + 1) (VR29 v)) [0, 1, 5] 6) := by kernel_rfl
def p29Bt (x : MX) (a : OV) (M : List Int) (m c i : Nat) : Prop := ((((((((((((True ∧ decide (nI i < nI a.n) = true) ∧ (0 ≤ nI i ∧ nI i < nI a.n)) ∧ ((0 + i * 2) % 2 = 0 ∧ (0 + i * 2) / 2 < x.CN a.P)) ∧ (0 ≤ nI i ∧ nI i < nI a.n)) ∧ ((0 + i * 2 + 1) % 2 = 1 ∧ (0 + i * 2 + 1) / 2 < x.CN a.P)) ∧ (0 ≤ nI i ∧ nI i < nI a.n)) ∧ ((0 + i * 2 + 1) % 2 = 1 ∧ (0 + i * 2 + 1) / 2 < x.CN a.P)) ∧ decide (m + 2 ≤ c) = false) ∧ (0 + 2 ≤ (two29 x a i).length ∧ 0 + m ≤ M.length ∧ (m + 2) * 1 ≤ mostBytes ∧ m + 2 ≤ mostBytes)) ∧ decide (m + 2 + x.CM a.P (ix3 i) ≤ m + 2) = true) ∧ ((x.CM a.P (ix3 i) = 0 ∨ 0 + x.CM a.P (ix3 i) ≤ (x.D (x.CQ a.P (ix3 i))).length) ∧ 0 + (m + 2) + x.CM a.P (ix3 i) ≤ (M29 x a M m i).length)) ∧ IntKind.i64.wrap (nI i + 1) = nI i + 1)
theorem k29Bt (x : MX) (a : OV) (M : List Int) (m c i : Nat) (v : VF) : (go29 KN l29 (s29b x a M m c i v) [some true, some true, some false, some true, some true, some false, none, some true, none, some true, some false, none, some true, some false, some true, some true]).map (fun r => (r.1, r.2.obl, seenInT BR29 r.2 (s29b x a (N29bz x a M m i) (m + 2 + x.CM a.P (ix3 i)) (m + 2) (i + 1) (VR29 v)) [0, 1, 4])) = some (.normal, p29Bt x a M m c i, seenAsT BR29 (s29b x a (N29bz x a M m i) (m + 2 + x.CM a.P (ix3 i)) (m + 2) (i + 1) (VR29 v)) [0, 1, 4] 5) := by kernel_rfl
theorem ok29R (x0 x : MX) (a : OV) (M : List Int) (m c i b : Nat) (v : VF) (hb : b = 4 ∨ b = 5) : picOkT BR29 (z29 x0 a) (s29b x a M m c i (VR29 v)) [0, 1, b] = true := by
  rcases hb with rfl | rfl
  · kernel_rfl
  · kernel_rfl
theorem ok29D (x0 x : MX) (a : OV) (i : Nat) (v : VF) : picOkT BD29 (z29 x0 a) (s29a x a i (VD29 v)) [0, 1, 2] = true := by kernel_rfl
theorem k29Xa (x : MX) (a : OV) (i : Nat) (v : VF) : (go29 KN l29 (s29a x a i v) [some false]).map (fun r => (r.1, r.2.obl, seenInT BXa29 r.2 (s29a x a i (VXa29 v)) [0, 1, 2])) = some (.exit 0, True ∧ decide (nI i < nI a.n) = false, seenAsT BXa29 (s29a x a i (VXa29 v)) [0, 1, 2] 3) := by kernel_rfl
theorem k29Xb (x : MX) (a : OV) (M : List Int) (m c i : Nat) (v : VF) : (go29 KN l29 (s29b x a M m c i v) [some false]).map (fun r => (r.1, r.2.obl, seenInT BXb29 r.2 (s29b x a M m c i (VXb29 v)) [0, 1, 2])) = some (.exit 0, True ∧ decide (nI i < nI a.n) = false, seenAsT BXb29 (s29b x a M m c i (VXb29 v)) [0, 1, 2] 3) := by kernel_rfl
theorem ok29Xa (x0 x : MX) (a : OV) (i : Nat) (v : VF) : picOkT BXa29 (z29 x0 a) (s29a x a i (VXa29 v)) [0, 1, 2] = true := by kernel_rfl
theorem ok29Xb (x0 x : MX) (a : OV) (M : List Int) (m c i : Nat) (v : VF) : picOkT BXb29 (z29 x0 a) (s29b x a M m c i (VXb29 v)) [0, 1, 2] = true := by kernel_rfl
theorem k29Eb (x : MX) (a : OV) (M : List Int) (m c i : Nat) (v : VF) : (go29 KN e29 (s29b x a M m c i v) []).map (fun r => (r.1, r.2.obl, seenInT BE29 r.2 (s29r x a M (.slice (some ⟨2, 0, some 1⟩) m c) (VE29 v)) [0, 1, 2])) = some (.ret, True, seenAsT BE29 (s29r x a M (.slice (some ⟨2, 0, some 1⟩) m c) (VE29 v)) [0, 1, 2] 3) := by kernel_rfl
theorem k29Ea (x : MX) (a : OV) (i : Nat) (v : VF) : (go29 KN e29 (s29a x a i v) []).map (fun r => (r.1, r.2.obl, seenInT BE29 r.2 (s29q x a (.slice (some ⟨2, 0, none⟩) 6 6) (VE29 v)) [0, 1, 2])) = some (.ret, True, seenAsT BE29 (s29q x a (.slice (some ⟨2, 0, none⟩) 6 6) (VE29 v)) [0, 1, 2] 3) := by kernel_rfl
theorem ok29Eb (x0 x : MX) (a : OV) (M : List Int) (m c : Nat) (v : VF) : picOkT BE29 (z29 x0 a) (s29r x a M (.slice (some ⟨2, 0, some 1⟩) m c) (VE29 v)) [0, 1, 2] = true := by kernel_rfl
theorem ok29Ea (x0 x : MX) (a : OV) (v : VF) : picOkT BE29 (z29 x0 a) (s29q x a (.slice (some ⟨2, 0, none⟩) 6 6) (VE29 v)) [0, 1, 2] = true := by kernel_rfl
theorem up29 (x : MX) (a : OV) (ρ0 : Nat → PB) (W0 : World) (Q_ : Exit → St → Prop) : upW Try.prog none (z29 x a) ρ0 W0 [2, 2, 3, 2, 0] b29 Q_ = fun e s => (fun e s => (e = .normal ∧ StepW Try.prog none (z29 x a) ρ0 W0 e29 s Q_) ∨ (e ≠ .normal ∧ Q_ e s)) (blockOut 0 e) s := by kernel_rfl
end
end ob
end Go.Proofs.Ytpfmilkddapfiaa
namespace Go.Proofs.Ytpfmilkddapfiaa
open Go.ChangeShapes Go.WideShapes Go.ChangeAt Go.RowKit Go.Cln
namespace ob
set_option linter.unusedVariables false
noncomputable section
def BytesR (x : MX) (L : List Int) (F' : Nat → Nat → Cells) (v : Value) : Prop := ∃ (y : MX) (P c : Nat), F' = y.F ∧ v = PB_ P L.length c ∧ Keeps x.F y.F ∧ y.D P = L
noncomputable def acc29 (x : MX) (a : OV) : Nat → List Int
  | 0 => L0 a
  | i + 1 => acc29 x a i ++ (two29 x a i ++ rowK x a.P i)
theorem layE (l : List Int) (o : Nat) : layI l o [] = l := by
  unfold layI
  rw [List.nil_append, List.length_nil, Nat.add_zero, List.take_append_drop]
theorem rowK0 {x : MX} {P i : Nat} (h : x.CM P (ix3 i) = 0) : rowK x P i = [] := by unfold rowK; rw [h, List.take_zero]
theorem rowK_len {x : MX} {P i : Nat} (h : x.CM P (ix3 i) ≤ (x.D (x.CQ P (ix3 i))).length) : (rowK x P i).length = x.CM P (ix3 i) := by
  unfold rowK; rw [List.drop_zero, List.length_take]; omega
theorem N29a_eq (x : MX) (a : OV) (i : Nat) : N29a x a i = L0 a ++ (two29 x a i ++ rowK x a.P i) := rfl
theorem N29az_eq {x : MX} {a : OV} {i : Nat} (h : x.CM a.P (ix3 i) = 0) : N29az x a i = L0 a ++ (two29 x a i ++ rowK x a.P i) := by
  unfold N29az; rw [rowK0 h, layE, List.append_nil]
theorem M29_eq {x : MX} {a : OV} {M : List Int} {m i : Nat} (hm : M.length = m) : M29 x a M m i = M ++ two29 x a i := by
  unfold M29; rw [List.drop_zero, List.take_of_length_le (by omega)]
theorem N29b_eq {x : MX} {a : OV} {M : List Int} {m i : Nat} (hm : M.length = m) : N29b x a M m i = M ++ (two29 x a i ++ rowK x a.P i) := by
  unfold N29b
  rw [M29_eq hm, List.drop_zero, List.take_of_length_le (by rw [List.length_append, hm]; exact Nat.le_refl _), List.append_assoc]
theorem N29bz_eq {x : MX} {a : OV} {M : List Int} {m i : Nat} (hm : M.length = m) (h : x.CM a.P (ix3 i) = 0) : N29bz x a M m i = M ++ (two29 x a i ++ rowK x a.P i) := by
  unfold N29bz
  rw [M29_eq hm, rowK0 h, layE, List.append_nil]
theorem L0_len (a : OV) : (L0 a).length = 6 := rfl
theorem two29_len (x : MX) (a : OV) (i : Nat) : (two29 x a i).length = 2 := rfl
noncomputable def h29t (x : MX) (a : OV) : Nat → Option Ob := fun j => match j with
  | 0 => some (.fam x.F)
  | 1 => some (.cells (.lit a.l) 26)
  | _ => none
noncomputable def s29t (x : MX) (a : OV) (u : Value) (v : VF) : St := ⟨tm29r v a u, [], Tr.rebuild (h29t x a) 3, 3, 1, [], fun _ => false, True, []⟩
theorem z29_base (x : MX) (a : OV) (b : Nat) (o : Ob) (h : (z29 x a).heap.get b = some o) : (z29 x a).may b = false := by
  obtain ⟨rfl, _⟩ := fam_get (orc := []) (show (smSt 1 [some (.fam x.F)] []).heap.get b = some o from h)
  rfl
theorem lit_ints_fam {L : List Int} (k : Nat) (v : Value) (h : (Cells.ints .u8 L).get k = some v) : (Cells.lit (L.map (Value.int .u8))).get k = some v ∧ famV v = true := by
  simp only [Cells.get, Option.map_eq_some_iff] at h ⊢
  obtain ⟨y, hy, rfl⟩ := h
  exact ⟨by rw [List.getElem?_map, hy]; rfl, rfl⟩
theorem rest29 {f g : Nat → Option Ob} (h1 : f 1 = g 1) (h2 : ∀ j, 3 ≤ j → f j = g j) (x : Nat) (h0 : x ≠ 0) (hb : x ≠ 2) : (Tr.rebuild f 3).get x = (Tr.rebuild g 3).get x := by
  rw [Tr.get_rebuild _ _ _ (by decide), Tr.get_rebuild _ _ _ (by decide)]
  split
  · rcases x with _ | _ | _ | x
    · exact absurd rfl h0
    · exact h1
    · exact absurd rfl hb
    · exact h2 _ (by omega)
  · rfl
theorem took29r (x : MX) (a : OV) (M : List Int) (m c P c' : Nat) (v : VF) : TookT (s29r x a M (.slice (some ⟨2, 0, some 1⟩) m c) v) (s29t (x.wD (updF x.D P M)) a (PB_ P m c') v) x.F (fun g => Nat.beq g 1000) 1000 2 2 (.ints .u8 M) m P c' where
  next := rfl
  roB := rfl
  ro := rfl
  hid := rfl
  defers := rfl
  tmps := rfl
  zero := by rw [← putB_F]; kernel_rfl
  gone := by kernel_rfl
  rest := fun j h0 hb => rest29 (f := h29t (x.wD (updF x.D P M)) a) (g := h29b x a M) rfl (fun j hj => by rcases j with _ | _ | _ | j <;> first | omega | rfl) j h0 hb
theorem took29q (x : MX) (a : OV) (P c' : Nat) (v : VF) : TookT (s29q x a (.slice (some ⟨2, 0, none⟩) 6 6) v) (s29t (x.wD (updF x.D P (L0 a))) a (PB_ P 6 c') v) x.F (fun g => Nat.beq g 1000) 1000 2 2 (.ints .u8 (L0 a)) 6 P c' where
  next := rfl
  roB := rfl
  ro := rfl
  hid := rfl
  defers := rfl
  tmps := rfl
  zero := by rw [← putB_F]; kernel_rfl
  gone := by kernel_rfl
  rest := fun j h0 hb => rest29 (f := h29t (x.wD (updF x.D P (L0 a))) a) (g := h29a x a) rfl (fun j hj => by rcases j with _ | _ | _ | j <;> first | omega | rfl) j h0 hb
theorem g29r0 (x : MX) (a : OV) (M : List Int) (u : Value) (v : VF) : (s29r x a M u v).heap.get 0 = some (.fam x.F) := by kernel_rfl
theorem g29r2 (x : MX) (a : OV) (M : List Int) (u : Value) (v : VF) : (s29r x a M u v).heap.get 2 = some (.cells (.ints .u8 M) 5) := by kernel_rfl
theorem g29q0 (x : MX) (a : OV) (u : Value) (v : VF) : (s29q x a u v).heap.get 0 = some (.fam x.F) := by kernel_rfl
theorem g29q2 (x : MX) (a : OV) (u : Value) (v : VF) : (s29q x a u v).heap.get 2 = some (.cells (.lit ((L0 a).map (Value.int .u8))) 5) := by kernel_rfl
theorem g29t0 (x : MX) (a : OV) (u : Value) (v : VF) : (s29t x a u v).heap.get 0 = some (.fam x.F) := by kernel_rfl
theorem laid29 {x : MX} {a : OV} (hO : capOk x a.P a.n) : MkOk Try.prog x.F 29 [a.v] (BytesR x (acc29 x a a.n)) := by
  refine mk_fn (s0 := z29 x a) rfl fn29 fun ρ0 W0 => ?_
  obtain ⟨p1, p2, p3⟩ := hO
  have hlen : ∀ i, i ≤ a.n → (acc29 x a i).length ≤ 6 + i * 1002 := by
    intro i
    induction i with
    | zero => intro _; exact Nat.le_refl _
    | succ i ih =>
      intro hi
      have := ih (by omega)
      obtain ⟨b1, b2⟩ := p3 i (by omega)
      have hr : (rowK x a.P i).length = x.CM a.P i := by have := rowK_len (x := x) (P := a.P) (i := i) (by rw [ix3_eq]; exact b1); rwa [ix3_eq] at this
      unfold acc29
      rw [List.length_append, List.length_append, two29_len, hr]
      omega
  refine StepW.downs pg KN_ok (kD29 x a) trivial (tm29a_dead (VD29_dead vU_dead) lvD29) (h29a_ok x a) rfl (ok29D x x a 0 vU) ?_
  rw [up29]
  refine (runLoopW (id := 0) (N := a.n) (I := fun i s => (i = 0 ∧ ∃ v, (∀ j, DeadV (v j)) ∧ s = s29a x a 0 v) ∨ (0 < i ∧ ∃ v, (∀ j, DeadV (v j)) ∧ s = s29b x a (acc29 x a i) (acc29 x a i).length (acc29 x a i).length i v)) (J := fun s => (a.n = 0 ∧ ∃ v, (∀ j, DeadV (v j)) ∧ s = s29a x a 0 v) ∨ (0 < a.n ∧ ∃ v, (∀ j, DeadV (v j)) ∧ s = s29b x a (acc29 x a a.n) (acc29 x a a.n).length (acc29 x a a.n).length a.n v)) ?_ ?_ (.inl ⟨rfl, VD29 vU, VD29_dead vU_dead, rfl⟩)).mono ?_
  · intro i s hi hI
    obtain ⟨b1, b2⟩ := p3 i hi
    have e3 := ix3_eq i
    have hr : (rowK x a.P i).length = x.CM a.P (ix3 i) := rowK_len (by rw [e3]; exact b1)
    have c1 : decide (nI i < nI a.n) = true := decide_eq_true (by unfold nI; omega)
    have c2 : 0 ≤ nI i ∧ nI i < nI a.n := by unfold nI; omega
    have c3 : (0 + i * 2) % 2 = 0 ∧ (0 + i * 2) / 2 < x.CN a.P := by omega
    have c4 : (0 + i * 2 + 1) % 2 = 1 ∧ (0 + i * 2 + 1) / 2 < x.CN a.P := by omega
    have cw : IntKind.i64.wrap (nI i + 1) = nI i + 1 := by rw [IntKind.wrap_i64]; unfold nI; omega
    have hb3 : x.CM a.P (ix3 i) ≤ (x.D (x.CQ a.P (ix3 i))).length := by rw [e3]; exact b1
    have hc3 : x.CM a.P (ix3 i) ≤ 1000 := by rw [e3]; exact b2
    have hl := hlen i (by omega)
    rcases hI with ⟨rfl, v, hv, rfl⟩ | ⟨h0, v, hv, rfl⟩
    · have ha : acc29 x a (0 + 1) = L0 a ++ (two29 x a 0 ++ rowK x a.P 0) := rfl
      have hal : (acc29 x a (0 + 1)).length = 6 + 2 + x.CM a.P (ix3 0) := by rw [ha, List.length_append, List.length_append, two29_len, L0_len, hr]; omega
      by_cases hz : x.CM a.P (ix3 0) = 0
      · refine ((StepG.stdT (s0 := z29 x a) (rd := none) pg KN_ok (k29At x a 0 v) ⟨⟨⟨⟨⟨⟨⟨⟨⟨⟨trivial, c1⟩, c2⟩, c3⟩, c2⟩, c4⟩, c2⟩, c4⟩, decide_eq_true (by omega)⟩, .inl hz, by rw [List.length_append, L0_len, two29_len]; omega⟩, cw⟩ (show 1 ≤ 3 by decide) (tm29b_dead (VR29_dead hv) lvR29) (h29b_ok x a _) rfl (ok29R x x a _ _ _ 1 4 v (.inl rfl))).at ρ0 W0).mono ?_
        rintro e s ⟨rfl, rfl⟩
        refine ⟨rfl, .inr ⟨by omega, VR29 v, VR29_dead hv, ?_⟩⟩
        rw [hal, ha, N29az_eq hz, hz]
      · refine ((StepG.stdT (s0 := z29 x a) (rd := none) pg KN_ok (k29Af x a 0 v) ⟨⟨⟨⟨⟨⟨⟨⟨⟨⟨trivial, c1⟩, c2⟩, c3⟩, c2⟩, c4⟩, c2⟩, c4⟩, decide_eq_false (by omega)⟩, .inr (by omega), by rw [List.length_append, L0_len, two29_len]; omega, by unfold mostBytes; omega, by unfold mostBytes; omega⟩, cw⟩ (show 1 ≤ 3 by decide) (tm29b_dead (VR29_dead hv) lvR29) (h29b_ok x a _) rfl (ok29R x x a _ _ _ 1 5 v (.inr rfl))).at ρ0 W0).mono ?_
        rintro e s ⟨rfl, rfl⟩
        refine ⟨rfl, .inr ⟨by omega, VR29 v, VR29_dead hv, ?_⟩⟩
        rw [hal, ha, N29a_eq]
    · have ha : acc29 x a (i + 1) = acc29 x a i ++ (two29 x a i ++ rowK x a.P i) := rfl
      have hal : (acc29 x a (i + 1)).length = (acc29 x a i).length + 2 + x.CM a.P (ix3 i) := by rw [ha, List.length_append, List.length_append, two29_len, hr]; omega
      have hi2 : i ≤ 1000 := by omega
      by_cases hz : x.CM a.P (ix3 i) = 0
      · refine ((StepG.stdT (s0 := z29 x a) (rd := none) pg KN_ok (k29Bt x a (acc29 x a i) _ _ i v) ⟨⟨⟨⟨⟨⟨⟨⟨⟨⟨⟨⟨trivial, c1⟩, c2⟩, c3⟩, c2⟩, c4⟩, c2⟩, c4⟩, decide_eq_false (by omega)⟩, by rw [two29_len]; omega, by omega, by unfold mostBytes; omega, by unfold mostBytes; omega⟩, decide_eq_true (by omega)⟩, .inl hz, by rw [M29_eq rfl, List.length_append, two29_len]; omega⟩, cw⟩ (show 1 ≤ 3 by decide) (tm29b_dead (VR29_dead hv) lvR29) (h29b_ok x a _) rfl (ok29R x x a _ _ _ (i + 1) 4 v (.inl rfl))).at ρ0 W0).mono ?_
        rintro e s ⟨rfl, rfl⟩
        refine ⟨rfl, .inr ⟨by omega, VR29 v, VR29_dead hv, ?_⟩⟩
        rw [hal, ha, N29bz_eq rfl hz, hz]
      · refine ((StepG.stdT (s0 := z29 x a) (rd := none) pg KN_ok (k29Bf x a (acc29 x a i) _ _ i v) ⟨⟨⟨⟨⟨⟨⟨⟨⟨⟨⟨⟨trivial, c1⟩, c2⟩, c3⟩, c2⟩, c4⟩, c2⟩, c4⟩, decide_eq_false (by omega)⟩, by rw [two29_len]; omega, by omega, by unfold mostBytes; omega, by unfold mostBytes; omega⟩, decide_eq_false (by omega)⟩, .inr (by omega), by rw [M29_eq rfl, List.length_append, two29_len]; omega, by unfold mostBytes; omega, by unfold mostBytes; omega⟩, cw⟩ (show 1 ≤ 3 by decide) (tm29b_dead (VR29_dead hv) lvR29) (h29b_ok x a _) rfl (ok29R x x a _ _ _ (i + 1) 5 v (.inr rfl))).at ρ0 W0).mono ?_
        rintro e s ⟨rfl, rfl⟩
        refine ⟨rfl, .inr ⟨by omega, VR29 v, VR29_dead hv, ?_⟩⟩
        rw [hal, ha, N29b_eq rfl]
  · rintro s (⟨h0, v, hv, rfl⟩ | ⟨h0, v, hv, rfl⟩)
    · refine ((StepG.stdT (s0 := z29 x a) (rd := none) pg KN_ok (k29Xa x a 0 v) ⟨trivial, decide_eq_false (by unfold nI; omega)⟩ (show 1 ≤ 3 by decide) (tm29a_dead (VXa29_dead hv) lvXa29) (h29a_ok x a) rfl (ok29Xa x x a 0 v)).at ρ0 W0).mono ?_
      rintro e s ⟨rfl, rfl⟩
      exact ⟨rfl, .inl ⟨h0, VXa29 v, VXa29_dead hv, rfl⟩⟩
    · refine ((StepG.stdT (s0 := z29 x a) (rd := none) pg KN_ok (k29Xb x a _ _ _ a.n v) ⟨trivial, decide_eq_false (by omega)⟩ (show 1 ≤ 3 by decide) (tm29b_dead (VXb29_dead hv) lvXb29) (h29b_ok x a _) rfl (ok29Xb x x a _ _ _ a.n v)).at ρ0 W0).mono ?_
      rintro e s ⟨rfl, rfl⟩
      exact ⟨rfl, .inr ⟨h0, VXb29 v, VXb29_dead hv, rfl⟩⟩
  · rintro e s ⟨rfl, hJ⟩
    refine .inl ⟨rfl, ?_⟩
    rcases hJ with ⟨h0, v, hv, rfl⟩ | ⟨h0, v, hv, rfl⟩
    · refine StepW.turn ((StepG.stdT (s0 := z29 x a) (rd := none) pg KN_ok (k29Ea x a 0 v) trivial (show 1 ≤ 3 by decide) (tm29r_dead (VE29_dead hv) lvE29) (h29a_ok x a) rfl (ok29Ea x x a v)).at ρ0 W0) ?_
      rintro e s w a' ⟨rfl, rfl⟩ hs0 hp
      obtain ⟨P, c', hc, hP, hk, hp2⟩ := PicG.takeT (sg := 1000) (i := 2) (b := 2) (p := fun g => Nat.beq g 1000) (c := .ints .u8 (L0 a)) (fun P c' => s29t (x.wD (updF x.D P (L0 a))) a (PB_ P 6 c') (VE29 v)) hp (g29q0 x a _ _) (g29q2 x a _ _) lit_ints_fam rfl (by decide) rfl rfl rfl (z29_base x a) (fun P c' => took29q x a P c' _)
      rw [← putB_F] at hk
      refine ⟨_, ⟨rfl, rfl, _, ([PB_ P 6 c'], s29t (x.wD (updF x.D P (L0 a))) a (PB_ P 6 c') (VE29 v)), g29t0 _ a _ _, ?_, rfl, trivial, rfl, _, P, c', rfl, ?_, hk, ?_⟩, hp2⟩
      · rw [putB_F]; exact (Fresh.refl _ _).put hP
      · rw [h0]; rfl
      · rw [h0]; exact updF_at _ _ _
    · refine StepW.turn ((StepG.stdT (s0 := z29 x a) (rd := none) pg KN_ok (k29Eb x a (acc29 x a a.n) _ _ a.n v) trivial (show 1 ≤ 3 by decide) (tm29r_dead (VE29_dead hv) lvE29) (h29b_ok x a _) rfl (ok29Eb x x a _ _ _ v)).at ρ0 W0) ?_
      rintro e s w a' ⟨rfl, rfl⟩ hs0 hp
      obtain ⟨P, c', hc, hP, hk, hp2⟩ := PicG.takeT (sg := 1000) (i := 2) (b := 2) (p := fun g => Nat.beq g 1000) (c := .ints .u8 (acc29 x a a.n)) (fun P c' => s29t (x.wD (updF x.D P (acc29 x a a.n))) a (PB_ P (acc29 x a a.n).length c') (VE29 v)) hp (g29r0 x a _ _ _) (g29r2 x a _ _ _) ints_fam rfl (by decide) rfl rfl rfl (z29_base x a) (fun P c' => took29r x a _ _ _ P c' _)
      rw [← putB_F] at hk
      refine ⟨_, ⟨rfl, rfl, _, ([PB_ P (acc29 x a a.n).length c'], s29t (x.wD (updF x.D P (acc29 x a a.n))) a (PB_ P (acc29 x a a.n).length c') (VE29 v)), g29t0 _ a _ _, ?_, rfl, trivial, rfl, _, P, c', rfl, rfl, hk, updF_at _ _ _⟩, hp2⟩
      rw [putB_F]; exact (Fresh.refl _ _).put hP
end
end ob
end Go.Proofs.Ytpfmilkddapfiaa
