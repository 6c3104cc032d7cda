/- Read off the code by the clean reading. -/
import Derived.Test.YtpfmilkddapfiaaClnMl
set_option linter.unusedVariables false
set_option linter.unusedSimpArgs false
set_option linter.deprecated false
set_option maxRecDepth 100000
namespace Go.Proofs.Ytpfmilkddapfiaa
open Go.ChangeShapes Go.WideShapes Go.ChangeAt Go.RowKit Go.Cln
namespace ob
set_option linter.unusedVariables false
noncomputable section
def b22 : Code := ((Try.prog.funcs[22]?).bind (·.body)).getD .skip
theorem fn22 : (Try.prog.funcs[22]?).map (fun f => (f.body, f.results.toList, f.ntmps)) = some (some b22, [.cell 4 45], 58) := by kernel_rfl
def l22 : Code := loopB Try.prog 22 0
def m22 : Code := loopB Try.prog 22 1
def e22 : Code := sndC (sndC (sndC b22))
def q22 : Code := sndC (sndC l22)
noncomputable def z22 (x : MX) (a b : OV) : St := { smSt 1 [some (.fam x.F)] [] with tmps := [a.v, b.v] ++ List.replicate 56 undef, defers := [] }
noncomputable def go22 (K : Given) (c : Code) (s : St) (o : List (Option Bool)) : Option (Exit × St) := (mk Try.prog K 300).code 22 none c { s with obl := True, orc := o }
noncomputable def gd22 (l : List Nat) (c : Code) (s : St) (o : List (Option Bool)) : Option (St × Code) := down (mk Try.prog KN 300) 22 none l c { s with obl := True, orc := o }
noncomputable def tm22o (v : VF) (a b : OV) (i : Nat) : List Value := (a.v :: b.v :: .pointer (some ⟨1, 0, none⟩) :: .pointer (some ⟨2, 0, none⟩) :: .pointer (some ⟨3, 0, none⟩) :: .pointer (some ⟨4, 0, none⟩) :: .int .i64 (nI i) :: vs v 7 51 [])
theorem tm22o_dead {v : VF} {a b : OV} {i : Nat} {B : Nat → Bool} (h : ∀ i, DeadV (v i)) (hB : ∀ i, ((Nat.ble 0 i && Nat.ble i 6)) = true → B i = true) : deadT B 0 (tm22o v a b i) :=
  dl (hB 0 rfl) (dl (hB 1 rfl) (dl (hB 2 rfl) (dl (hB 3 rfl) (dl (hB 4 rfl) (dl (hB 5 rfl) (dl (hB 6 rfl) (deadT_vs h 51 (trivial))))))))
noncomputable def tm22i (v : VF) (a b : OV) (i k : Nat) : List Value := (a.v :: b.v :: .pointer (some ⟨1, 0, none⟩) :: .pointer (some ⟨2, 0, none⟩) :: .pointer (some ⟨3, 0, none⟩) :: .pointer (some ⟨4, 0, none⟩) :: .int .i64 (nI i) :: .int .i64 (nI k) :: vs v 8 50 [])
theorem tm22i_dead {v : VF} {a b : OV} {i k : Nat} {B : Nat → Bool} (h : ∀ i, DeadV (v i)) (hB : ∀ i, ((Nat.ble 0 i && Nat.ble i 7)) = true → B i = true) : deadT B 0 (tm22i v a b i k) :=
  dl (hB 0 rfl) (dl (hB 1 rfl) (dl (hB 2 rfl) (dl (hB 3 rfl) (dl (hB 4 rfl) (dl (hB 5 rfl) (dl (hB 6 rfl) (dl (hB 7 rfl) (deadT_vs h 50 (trivial)))))))))
noncomputable def tm22e (v : VF) (a b : OV) : List Value := (a.v :: b.v :: v 2 :: v 3 :: .pointer (some ⟨3, 0, none⟩) :: vs v 5 53 [])
theorem tm22e_dead {v : VF} {a b : OV} {B : Nat → Bool} (h : ∀ i, DeadV (v i)) (hB : ∀ i, ((Nat.ble 0 i && Nat.ble i 1) || Nat.beq i 4) = true → B i = true) : deadT B 0 (tm22e v a b) :=
  dl (hB 0 rfl) (dl (hB 1 rfl) (dn (h 2) (dn (h 3) (dl (hB 4 rfl) (deadT_vs h 53 (trivial))))))
def WD22 (i : Nat) : Bool := (Nat.ble 8 i && Nat.ble i 17)
noncomputable def VD22 (v : VF) : VF := fun i => match Nat.beq i 18 with
  | true => .agg #[junk, junk, junk]
  | false => match WD22 i with
  | true => junk
  | false => v i
def BD22 (i : Nat) : Bool := ((Nat.ble 0 i && Nat.ble i 6)) || WD22 i || Nat.beq i 18
theorem VD22_dead {v : VF} (h : ∀ i, DeadV (v i)) (i : Nat) : DeadV (VD22 v i) := by
  unfold VD22
  split
  · exact ⟨rfl, fun _ => rfl, fun _ => rfl⟩
  split
  · exact DeadV.junk
  · exact h i
theorem lvD22 (i : Nat) (h : ((Nat.ble 0 i && Nat.ble i 6)) = true) : BD22 i = true := jl (jl h)
def WO22 (i : Nat) : Bool := (Nat.ble 19 i && Nat.ble i 23)
noncomputable def VO22 (v : VF) : VF := fun i => match WO22 i with
  | true => junk
  | false => v i
def BO22 (i : Nat) : Bool := ((Nat.ble 0 i && Nat.ble i 7)) || WO22 i
theorem VO22_dead {v : VF} (h : ∀ i, DeadV (v i)) (i : Nat) : DeadV (VO22 v i) := jD (W := WO22) h i
theorem lvO22 (i : Nat) (h : ((Nat.ble 0 i && Nat.ble i 7)) = true) : BO22 i = true := jl h
def WS22 (i : Nat) : Bool := (Nat.ble 26 i && Nat.ble i 45)
noncomputable def VS22 (v : VF) : VF := fun i => match WS22 i with
  | true => junk
  | false => v i
def BS22 (i : Nat) : Bool := ((Nat.ble 0 i && Nat.ble i 7)) || WS22 i
theorem VS22_dead {v : VF} (h : ∀ i, DeadV (v i)) (i : Nat) : DeadV (VS22 v i) := jD (W := WS22) h i
theorem lvS22 (i : Nat) (h : ((Nat.ble 0 i && Nat.ble i 7)) = true) : BS22 i = true := jl h
def WH22 (i : Nat) : Bool := (Nat.ble 26 i && Nat.ble i 56)
noncomputable def VH22 (v : VF) : VF := fun i => match WH22 i with
  | true => junk
  | false => v i
def BH22 (i : Nat) : Bool := ((Nat.ble 0 i && Nat.ble i 7)) || WH22 i
theorem VH22_dead {v : VF} (h : ∀ i, DeadV (v i)) (i : Nat) : DeadV (VH22 v i) := jD (W := WH22) h i
theorem lvH22 (i : Nat) (h : ((Nat.ble 0 i && Nat.ble i 7)) = true) : BH22 i = true := jl h
def WY22 (i : Nat) : Bool := (Nat.ble 26 i && Nat.ble i 30)
noncomputable def VY22 (v : VF) : VF := fun i => match WY22 i with
  | true => junk
  | false => v i
def BY22 (i : Nat) : Bool := ((Nat.ble 0 i && Nat.ble i 7)) || WY22 i
theorem VY22_dead {v : VF} (h : ∀ i, DeadV (v i)) (i : Nat) : DeadV (VY22 v i) := jD (W := WY22) h i
theorem lvY22 (i : Nat) (h : ((Nat.ble 0 i && Nat.ble i 7)) = true) : BY22 i = true := jl h
def WQ22 (i : Nat) : Bool := Nat.beq i 7 || (Nat.ble 24 i && Nat.ble i 25)
noncomputable def VQ22 (v : VF) : VF := fun i => match WQ22 i with
  | true => junk
  | false => v i
def BQ22 (i : Nat) : Bool := ((Nat.ble 0 i && Nat.ble i 6)) || WQ22 i
theorem VQ22_dead {v : VF} (h : ∀ i, DeadV (v i)) (i : Nat) : DeadV (VQ22 v i) := jD (W := WQ22) h i
theorem lvQ22 (i : Nat) (h : ((Nat.ble 0 i && Nat.ble i 6)) = true) : BQ22 i = true := jl h
def WX22 (i : Nat) : Bool := (Nat.ble 19 i && Nat.ble i 23)
noncomputable def VX22 (v : VF) : VF := fun i => match WX22 i with
  | true => junk
  | false => v i
def BX22 (i : Nat) : Bool := ((Nat.ble 0 i && Nat.ble i 6)) || WX22 i
theorem VX22_dead {v : VF} (h : ∀ i, DeadV (v i)) (i : Nat) : DeadV (VX22 v i) := jD (W := WX22) h i
theorem lvX22 (i : Nat) (h : ((Nat.ble 0 i && Nat.ble i 6)) = true) : BX22 i = true := jl h
def WE22 (i : Nat) : Bool := (Nat.ble 2 i && Nat.ble i 3) || (Nat.ble 5 i && Nat.ble i 6)
noncomputable def VE22 (v : VF) : VF := fun i => match Nat.beq i 57 with
  | true => .agg #[junk, junk, junk]
  | false => match WE22 i with
  | true => junk
  | false => v i
def BE22 (i : Nat) : Bool := ((Nat.ble 0 i && Nat.ble i 1) || Nat.beq i 4) || WE22 i || Nat.beq i 57
theorem VE22_dead {v : VF} (h : ∀ i, DeadV (v i)) (i : Nat) : DeadV (VE22 v i) := by
  unfold VE22
  split
  · exact ⟨rfl, fun _ => rfl, fun _ => rfl⟩
  split
  · exact DeadV.junk
  · exact h i
theorem lvE22 (i : Nat) (h : ((Nat.ble 0 i && Nat.ble i 1) || Nat.beq i 4) = true) : BE22 i = true := jl (jl h)
noncomputable def s22oA (x : MX) (a b : OV) (h : Int) (e : Bool) (i : Nat) (v : VF) : St := ⟨tm22o v a b i, [], Tr.rebuild (h20a x a b h e) 5, 5, 1, [], fun _ => false, True, []⟩
noncomputable def s22iA (x : MX) (a b : OV) (h : Int) (e : Bool) (i k : Nat) (v : VF) : St := ⟨tm22i v a b i k, [], Tr.rebuild (h20a x a b h e) 5, 5, 1, [], fun _ => false, True, []⟩
noncomputable def s22oB (x : MX) (a b : OV) (h : Int) (e : Bool) (M : List Int) (m c : Nat) (i : Nat) (v : VF) : St := ⟨tm22o v a b i, [], Tr.rebuild (h20b x a b h e M m c) 6, 6, 1, [], fun _ => false, True, []⟩
noncomputable def s22iB (x : MX) (a b : OV) (h : Int) (e : Bool) (M : List Int) (m c : Nat) (i k : Nat) (v : VF) : St := ⟨tm22i v a b i k, [], Tr.rebuild (h20b x a b h e M m c) 6, 6, 1, [], fun _ => false, True, []⟩
noncomputable def s22iC (x : MX) (a b : OV) (h : Int) (e : Bool) (q : Int) (i k : Nat) (v : VF) : St := ⟨tm22i v a b i k, [], Tr.rebuild (h20c x a b h e q) 6, 6, 1, [], fun _ => false, True, []⟩
noncomputable def s22r (x : MX) (a b : OV) (h : Int) (e : Bool) (M : List Int) (m c : Nat) (v : VF) : St := ⟨tm22e v a b, [], Tr.rebuild (h20r x a b h e M m c) 5, 5, 1, [], fun _ => false, True, []⟩
noncomputable def s22n (x : MX) (a b : OV) (h : Int) (e : Bool) (v : VF) : St := ⟨tm22e v a b, [], Tr.rebuild (h20n x a b h e) 4, 4, 1, [], fun _ => false, True, []⟩
noncomputable def s22t (x : MX) (a b : OV) (h : Int) (e : Bool) (P m c : Nat) (v : VF) : St := ⟨tm22e v a b, [], Tr.rebuild (h20t x a b h e P m c) 5, 5, 1, [], fun _ => false, True, []⟩
theorem k22D1 (x : MX) (a b : OV) : (gd22 [2, 2, 3, 2, 0] b22 (z22 x a b) [some true]).map (fun r => (r.2, r.1.obl, seenInT BD22 r.1 (s22oA x a b b.hold (a.asn == b.asn) 0 (VD22 vU)) [0, 1, 2, 3, 4])) = some (.loop l22, True ∧ decide (b.hold < a.hold) = true, seenAsT BD22 (s22oA x a b b.hold (a.asn == b.asn) 0 (VD22 vU)) [0, 1, 2, 3, 4] 5) := by kernel_rfl
theorem k22D2 (x : MX) (a b : OV) : (gd22 [2, 2, 3, 2, 0] b22 (z22 x a b) [some false]).map (fun r => (r.2, r.1.obl, seenInT BD22 r.1 (s22oA x a b a.hold (a.asn == b.asn) 0 (VD22 vU)) [0, 1, 2, 3, 4])) = some (.loop l22, True ∧ decide (b.hold < a.hold) = false, seenAsT BD22 (s22oA x a b a.hold (a.asn == b.asn) 0 (VD22 vU)) [0, 1, 2, 3, 4] 5) := by kernel_rfl
theorem ok22D (x0 x : MX) (a b : OV) (h : Int) (e : Bool) (i : Nat) (v : VF) : picOkT BD22 (z22 x0 a b) (s22oA x a b h e i (VD22 v)) [0, 1, 2, 3, 4] = true := by kernel_rfl
def pS22 (x : MX) (a b : OV) (i k : Nat) : Prop := (((((((True ∧ decide (nI k < nI b.n) = true) ∧ (0 ≤ nI i ∧ nI i < nI a.n)) ∧ ((0 + i * 2) % 2 = 0 ∧ (0 + i * 2) / 2 < x.CN a.P)) ∧ (0 ≤ nI k ∧ nI k < nI b.n)) ∧ ((0 + k * 2) % 2 = 0 ∧ (0 + k * 2) / 2 < x.CN b.P)) ∧ ((x.CK a.P (ix2 i)) == (x.CK b.P (ix2 k))) = false) ∧ IntKind.i64.wrap (nI k + 1) = nI k + 1)
def pH22 (x : MX) (a b : OV) (i k : Nat) : Prop := (((((((((True ∧ decide (nI k < nI b.n) = true) ∧ (0 ≤ nI i ∧ nI i < nI a.n)) ∧ ((0 + i * 2) % 2 = 0 ∧ (0 + i * 2) / 2 < x.CN a.P)) ∧ (0 ≤ nI k ∧ nI k < nI b.n)) ∧ ((0 + k * 2) % 2 = 0 ∧ (0 + k * 2) / 2 < x.CN b.P)) ∧ ((x.CK a.P (ix2 i)) == (x.CK b.P (ix2 k))) = true) ∧ (0 ≤ nI i ∧ nI i < nI a.n)) ∧ ((0 + i * 2) % 2 = 0 ∧ (0 + i * 2) / 2 < x.CN a.P)) ∧ IntKind.i64.wrap (nI k + 1) = nI k + 1)
def pG22 (x : MX) (a b : OV) (M : List Int) (m c i k : Nat) : Prop := (((((((((((True ∧ decide (nI k < nI b.n) = true) ∧ (0 ≤ nI i ∧ nI i < nI a.n)) ∧ ((0 + i * 2) % 2 = 0 ∧ (0 + i * 2) / 2 < x.CN a.P)) ∧ (0 ≤ nI k ∧ nI k < nI b.n)) ∧ ((0 + k * 2) % 2 = 0 ∧ (0 + k * 2) / 2 < x.CN b.P)) ∧ ((x.CK a.P (ix2 i)) == (x.CK b.P (ix2 k))) = true) ∧ (0 ≤ nI i ∧ nI i < nI a.n)) ∧ ((0 + i * 2) % 2 = 0 ∧ (0 + i * 2) / 2 < x.CN a.P)) ∧ decide (m + 1 ≤ c) = false) ∧ (0 + 1 ≤ ([x.CK a.P (ix2 i)] : List Int).length ∧ 0 + m ≤ M.length ∧ (m + 1) * 1 ≤ mostBytes ∧ m + 1 ≤ mostBytes)) ∧ IntKind.i64.wrap (nI k + 1) = nI k + 1)
theorem k22AO (x : MX) (a b : OV) (h : Int) (e : Bool) (i : Nat) (v : VF) : (gd22 [2, 3, 0, 2, 0] l22 (s22oA x a b h e i v) [some true]).map (fun r => (r.2, r.1.obl, seenInT BO22 r.1 (s22iA x a b h e i 0 (VO22 v)) [0, 1, 2, 3, 4])) = some (.loop m22, True ∧ decide (nI i < nI a.n) = true, seenAsT BO22 (s22iA x a b h e i 0 (VO22 v)) [0, 1, 2, 3, 4] 5) := by kernel_rfl
theorem ok22AO (x0 x : MX) (a b : OV) (h : Int) (e : Bool) (i : Nat) (v : VF) : picOkT BO22 (z22 x0 a b) (s22iA x a b h e i 0 (VO22 v)) [0, 1, 2, 3, 4] = true := by kernel_rfl
theorem k22AS (x : MX) (a b : OV) (h : Int) (e : Bool) (i k : Nat) (v : VF) : (go22 KN m22 (s22iA x a b h e i k v) [some true, some true, some false, some true, some true, some false, some true, some false, some true]).map (fun r => (r.1, r.2.obl, seenInT BS22 r.2 (s22iA x a b h e i (k + 1) (VS22 v)) [0, 1, 2, 3, 4])) = some (.normal, pS22 x a b i k, seenAsT BS22 (s22iA x a b h e i (k + 1) (VS22 v)) [0, 1, 2, 3, 4] 5) := by kernel_rfl
theorem ok22AS (x0 x : MX) (a b : OV) (h : Int) (e : Bool) (i k : Nat) (v : VF) : picOkT BS22 (z22 x0 a b) (s22iA x a b h e i (k + 1) (VS22 v)) [0, 1, 2, 3, 4] = true := by kernel_rfl
theorem k22AY (x : MX) (a b : OV) (h : Int) (e : Bool) (i k : Nat) (v : VF) : (go22 KN m22 (s22iA x a b h e i k v) [some false]).map (fun r => (r.1, r.2.obl, seenInT BY22 r.2 (s22iA x a b h e i k (VY22 v)) [0, 1, 2, 3, 4])) = some (.exit 2, True ∧ decide (nI k < nI b.n) = false, seenAsT BY22 (s22iA x a b h e i k (VY22 v)) [0, 1, 2, 3, 4] 5) := by kernel_rfl
theorem ok22AY (x0 x : MX) (a b : OV) (h : Int) (e : Bool) (i k : Nat) (v : VF) : picOkT BY22 (z22 x0 a b) (s22iA x a b h e i k (VY22 v)) [0, 1, 2, 3, 4] = true := by kernel_rfl
theorem k22AQ (x : MX) (a b : OV) (h : Int) (e : Bool) (i k : Nat) (v : VF) : (go22 KN q22 (s22iA x a b h e i k v) [some true]).map (fun r => (r.1, r.2.obl, seenInT BQ22 r.2 (s22oA x a b h e (i + 1) (VQ22 v)) [0, 1, 2, 3, 4])) = some (.normal, True ∧ IntKind.i64.wrap (nI i + 1) = nI i + 1, seenAsT BQ22 (s22oA x a b h e (i + 1) (VQ22 v)) [0, 1, 2, 3, 4] 5) := by kernel_rfl
theorem ok22AQ (x0 x : MX) (a b : OV) (h : Int) (e : Bool) (i k : Nat) (v : VF) : picOkT BQ22 (z22 x0 a b) (s22oA x a b h e (i + 1) (VQ22 v)) [0, 1, 2, 3, 4] = true := by kernel_rfl
theorem k22AX (x : MX) (a b : OV) (h : Int) (e : Bool) (i : Nat) (v : VF) : (go22 KN l22 (s22oA x a b h e i v) [some false]).map (fun r => (r.1, r.2.obl, seenInT BX22 r.2 (s22oA x a b h e i (VX22 v)) [0, 1, 2, 3, 4])) = some (.exit 0, True ∧ decide (nI i < nI a.n) = false, seenAsT BX22 (s22oA x a b h e i (VX22 v)) [0, 1, 2, 3, 4] 5) := by kernel_rfl
theorem ok22AX (x0 x : MX) (a b : OV) (h : Int) (e : Bool) (i : Nat) (v : VF) : picOkT BX22 (z22 x0 a b) (s22oA x a b h e i (VX22 v)) [0, 1, 2, 3, 4] = true := by kernel_rfl
theorem k22BO (x : MX) (a b : OV) (h : Int) (e : Bool) (M : List Int) (m c : Nat) (i : Nat) (v : VF) : (gd22 [2, 3, 0, 2, 0] l22 (s22oB x a b h e M m c i v) [some true]).map (fun r => (r.2, r.1.obl, seenInT BO22 r.1 (s22iB x a b h e M m c i 0 (VO22 v)) [0, 1, 2, 3, 4, 5])) = some (.loop m22, True ∧ decide (nI i < nI a.n) = true, seenAsT BO22 (s22iB x a b h e M m c i 0 (VO22 v)) [0, 1, 2, 3, 4, 5] 6) := by kernel_rfl
theorem ok22BO (x0 x : MX) (a b : OV) (h : Int) (e : Bool) (M : List Int) (m c : Nat) (i : Nat) (v : VF) : picOkT BO22 (z22 x0 a b) (s22iB x a b h e M m c i 0 (VO22 v)) [0, 1, 2, 3, 4, 5] = true := by kernel_rfl
theorem k22BS (x : MX) (a b : OV) (h : Int) (e : Bool) (M : List Int) (m c : Nat) (i k : Nat) (v : VF) : (go22 KN m22 (s22iB x a b h e M m c i k v) [some true, some true, some false, some true, some true, some false, some true, some false, some true]).map (fun r => (r.1, r.2.obl, seenInT BS22 r.2 (s22iB x a b h e M m c i (k + 1) (VS22 v)) [0, 1, 2, 3, 4, 5])) = some (.normal, pS22 x a b i k, seenAsT BS22 (s22iB x a b h e M m c i (k + 1) (VS22 v)) [0, 1, 2, 3, 4, 5] 6) := by kernel_rfl
theorem ok22BS (x0 x : MX) (a b : OV) (h : Int) (e : Bool) (M : List Int) (m c : Nat) (i k : Nat) (v : VF) : picOkT BS22 (z22 x0 a b) (s22iB x a b h e M m c i (k + 1) (VS22 v)) [0, 1, 2, 3, 4, 5] = true := by kernel_rfl
theorem k22BY (x : MX) (a b : OV) (h : Int) (e : Bool) (M : List Int) (m c : Nat) (i k : Nat) (v : VF) : (go22 KN m22 (s22iB x a b h e M m c i k v) [some false]).map (fun r => (r.1, r.2.obl, seenInT BY22 r.2 (s22iB x a b h e M m c i k (VY22 v)) [0, 1, 2, 3, 4, 5])) = some (.exit 2, True ∧ decide (nI k < nI b.n) = false, seenAsT BY22 (s22iB x a b h e M m c i k (VY22 v)) [0, 1, 2, 3, 4, 5] 6) := by kernel_rfl
theorem ok22BY (x0 x : MX) (a b : OV) (h : Int) (e : Bool) (M : List Int) (m c : Nat) (i k : Nat) (v : VF) : picOkT BY22 (z22 x0 a b) (s22iB x a b h e M m c i k (VY22 v)) [0, 1, 2, 3, 4, 5] = true := by kernel_rfl
theorem k22BQ (x : MX) (a b : OV) (h : Int) (e : Bool) (M : List Int) (m c : Nat) (i k : Nat) (v : VF) : (go22 KN q22 (s22iB x a b h e M m c i k v) [some true]).map (fun r => (r.1, r.2.obl, seenInT BQ22 r.2 (s22oB x a b h e M m c (i + 1) (VQ22 v)) [0, 1, 2, 3, 4, 5])) = some (.normal, True ∧ IntKind.i64.wrap (nI i + 1) = nI i + 1, seenAsT BQ22 (s22oB x a b h e M m c (i + 1) (VQ22 v)) [0, 1, 2, 3, 4, 5] 6) := by kernel_rfl
theorem ok22BQ (x0 x : MX) (a b : OV) (h : Int) (e : Bool) (M : List Int) (m c : Nat) (i k : Nat) (v : VF) : picOkT BQ22 (z22 x0 a b) (s22oB x a b h e M m c (i + 1) (VQ22 v)) [0, 1, 2, 3, 4, 5] = true := by kernel_rfl
theorem k22BX (x : MX) (a b : OV) (h : Int) (e : Bool) (M : List Int) (m c : Nat) (i : Nat) (v : VF) : (go22 KN l22 (s22oB x a b h e M m c i v) [some false]).map (fun r => (r.1, r.2.obl, seenInT BX22 r.2 (s22oB x a b h e M m c i (VX22 v)) [0, 1, 2, 3, 4, 5])) = some (.exit 0, True ∧ decide (nI i < nI a.n) = false, seenAsT BX22 (s22oB x a b h e M m c i (VX22 v)) [0, 1, 2, 3, 4, 5] 6) := by kernel_rfl
theorem ok22BX (x0 x : MX) (a b : OV) (h : Int) (e : Bool) (M : List Int) (m c : Nat) (i : Nat) (v : VF) : picOkT BX22 (z22 x0 a b) (s22oB x a b h e M m c i (VX22 v)) [0, 1, 2, 3, 4, 5] = true := by kernel_rfl
theorem k22AH (x : MX) (a b : OV) (h : Int) (e : Bool) (i k : Nat) (v : VF) : (go22 KN m22 (s22iA x a b h e i k v) [some true, some true, some false, some true, some true, some false, some true, some true, some true, some false, some true, some true]).map (fun r => (r.1, r.2.obl, seenInT BH22 r.2 (s22iC x a b h e (x.CK a.P (ix2 i)) i (k + 1) (VH22 v)) [0, 1, 2, 3, 4, 6])) = some (.normal, pH22 x a b i k, seenAsT BH22 (s22iC x a b h e (x.CK a.P (ix2 i)) i (k + 1) (VH22 v)) [0, 1, 2, 3, 4, 6] 7) := by kernel_rfl
theorem ok22AH (x0 x : MX) (a b : OV) (h : Int) (e : Bool) (i k : Nat) (v : VF) : picOkT BH22 (z22 x0 a b) (s22iC x a b h e (x.CK a.P (ix2 i)) i (k + 1) (VH22 v)) [0, 1, 2, 3, 4, 6] = true := by kernel_rfl
theorem k22BH (x : MX) (a b : OV) (h : Int) (e : Bool) (M : List Int) (m c : Nat) (i k : Nat) (v : VF) : (go22 KN m22 (s22iB x a b h e M m c i k v) [some true, some true, some false, some true, some true, some false, some true, some true, some true, some false, some true, some false, some true]).map (fun r => (r.1, r.2.obl, seenInT BH22 r.2 (s22iB x a b h e (((M.drop 0).take m) ++ [x.CK a.P (ix2 i)]) (m + 1) (m + 1) i (k + 1) (VH22 v)) [0, 1, 2, 3, 4, 7])) = some (.normal, pG22 x a b M m c i k, seenAsT BH22 (s22iB x a b h e (((M.drop 0).take m) ++ [x.CK a.P (ix2 i)]) (m + 1) (m + 1) i (k + 1) (VH22 v)) [0, 1, 2, 3, 4, 7] 8) := by kernel_rfl
theorem ok22BH (x0 x : MX) (a b : OV) (h : Int) (e : Bool) (M : List Int) (m c : Nat) (i k : Nat) (v : VF) : picOkT BH22 (z22 x0 a b) (s22iB x a b h e (((M.drop 0).take m) ++ [x.CK a.P (ix2 i)]) (m + 1) (m + 1) i (k + 1) (VH22 v)) [0, 1, 2, 3, 4, 7] = true := by kernel_rfl
theorem k22AE (x : MX) (a b : OV) (h : Int) (e : Bool) (i : Nat) (v : VF) : (go22 KN e22 (s22oA x a b h e i v) []).map (fun r => (r.1, r.2.obl, seenInT BE22 r.2 (s22n x a b h e (VE22 v)) [0, 1, 2, 3])) = some (.ret, True, seenAsT BE22 (s22n x a b h e (VE22 v)) [0, 1, 2, 3] 5) := by kernel_rfl
theorem ok22AE (x0 x : MX) (a b : OV) (h : Int) (e : Bool) (i : Nat) (v : VF) : picOkT BE22 (z22 x0 a b) (s22n x a b h e (VE22 v)) [0, 1, 2, 3] = true := by kernel_rfl
theorem k22BE (x : MX) (a b : OV) (h : Int) (e : Bool) (M : List Int) (m c : Nat) (i : Nat) (v : VF) : (go22 KN e22 (s22oB x a b h e M m c i v) []).map (fun r => (r.1, r.2.obl, seenInT BE22 r.2 (s22r x a b h e M m c (VE22 v)) [0, 1, 2, 3, 5])) = some (.ret, True, seenAsT BE22 (s22r x a b h e M m c (VE22 v)) [0, 1, 2, 3, 5] 6) := by kernel_rfl
theorem ok22BE (x0 x : MX) (a b : OV) (h : Int) (e : Bool) (M : List Int) (m c : Nat) (i : Nat) (v : VF) : picOkT BE22 (z22 x0 a b) (s22r x a b h e M m c (VE22 v)) [0, 1, 2, 3, 5] = true := by kernel_rfl
theorem up22 (x : MX) (a b : OV) (ρ0 : Nat → PB) (W0 : World) (Q_ : Exit → St → Prop) : upW Try.prog none (z22 x a b) ρ0 W0 [2, 2, 3, 2, 0] b22 Q_ = fun e s => (fun e s => (e = .normal ∧ StepW Try.prog none (z22 x a b) ρ0 W0 e22 s Q_) ∨ (e ≠ .normal ∧ Q_ e s)) (blockOut 0 e) s := by kernel_rfl
theorem up22r (x : MX) (a b : OV) (ρ0 : Nat → PB) (W0 : World) (Q_ : Exit → St → Prop) : upW Try.prog none (z22 x a b) ρ0 W0 [2, 3, 0, 2, 0] l22 Q_ = fun e s => (fun e s => (fun e s => (e = .normal ∧ StepW Try.prog none (z22 x a b) ρ0 W0 q22 s Q_) ∨ (e ≠ .normal ∧ Q_ e s)) (blockOut 1 e) s) (blockOut 2 e) s := by kernel_rfl
end
end ob
end Go.Proofs.Ytpfmilkddapfiaa
namespace Go.Proofs.Ytpfmilkddapfiaa
open Go.ChangeShapes Go.WideShapes Go.ChangeAt Go.RowKit Go.Cln
namespace ob
set_option linter.unusedVariables false
noncomputable section
noncomputable def accI (x : MX) (a b : OV) (i : Nat) (L : List Int) : Nat → List Int
  | 0 => L
  | k + 1 => accI x a b i L k ++ (bif (x.CK a.P i) == (x.CK b.P k) then [x.CK a.P i] else [])
noncomputable def accR (x : MX) (a b : OV) : Nat → List Int
  | 0 => []
  | i + 1 => accI x a b i (accR x a b i) b.n
theorem accI_len (x : MX) (a b : OV) (i : Nat) (L : List Int) : ∀ k, (accI x a b i L k).length ≤ L.length + k
  | 0 => Nat.le_refl _
  | k + 1 => by
    have := accI_len x a b i L k
    unfold accI
    rw [List.length_append]
    cases ((x.CK a.P i) == (x.CK b.P k))
    · simp only [cond_false, List.length_nil]; omega
    · simp only [cond_true, List.length_cons, List.length_nil]; omega
theorem accR_len {x : MX} {a b : OV} (hb : b.n ≤ 1000) : ∀ i, (accR x a b i).length ≤ i * 1000
  | 0 => Nat.le_refl _
  | i + 1 => by
    have h1 := accR_len (x := x) (a := a) hb i
    have h2 := accI_len x a b i (accR x a b i) b.n
    unfold accR
    omega
theorem res22n (x : MX) (a b : OV) (h : Int) (e : Bool) (v : VF) : (results1 Try.prog (s22n x a b h e v) [.cell 4 45]).map (fun q => (q.1, q.2.obl)) = some ([.agg #[.int .u16 h, .bool e, .slice none 0 0]], True) := by kernel_rfl
theorem res22t (x : MX) (a b : OV) (h : Int) (e : Bool) (P m k : Nat) (v : VF) : (results1 Try.prog (s22t x a b h e P m k v) [.cell 4 45]).map (fun q => (q.1, q.2.obl)) = some ([.agg #[.int .u16 h, .bool e, PB_ P m k]], True) := by kernel_rfl
theorem g22n0 (x : MX) (a b : OV) (h : Int) (e : Bool) (v : VF) : (s22n x a b h e v).heap.get 0 = some (.fam x.F) := by kernel_rfl
theorem g22t0 (x : MX) (a b : OV) (h : Int) (e : Bool) (P m k : Nat) (v : VF) : (s22t x a b h e P m k v).heap.get 0 = some (.fam x.F) := by kernel_rfl
theorem g22r0 (x : MX) (a b : OV) (h : Int) (e : Bool) (M : List Int) (m k : Nat) (v : VF) : (s22r x a b h e M m k v).heap.get 0 = some (.fam x.F) := by kernel_rfl
theorem g22r3 (x : MX) (a b : OV) (h : Int) (e : Bool) (M : List Int) (m k : Nat) (v : VF) : (s22r x a b h e M m k v).heap.get 3 = some (.cells (.lit [.int .u16 h, .bool e, .slice (some ⟨4, 0, some 1⟩) m k]) 45) := by kernel_rfl
theorem g22r4 (x : MX) (a b : OV) (h : Int) (e : Bool) (M : List Int) (m k : Nat) (v : VF) : (s22r x a b h e M m k v).heap.get 4 = some (.cells (.ints .u8 M) 5) := by kernel_rfl
theorem g22c5 (x : MX) (a b : OV) (h : Int) (e : Bool) (q : Int) (i k : Nat) (v : VF) : (s22iC x a b h e q i k v).heap.get 5 = some (.cells (.lit [.int .u8 q]) 5) := by kernel_rfl
theorem g22b5 (x : MX) (a b : OV) (h : Int) (e : Bool) (M : List Int) (m c i k : Nat) (v : VF) : (s22iB x a b h e M m c i k v).heap.get 5 = some (.cells (.ints .u8 M) 5) := by kernel_rfl
theorem z22_base (x : MX) (a b : OV) (j : Nat) (o : Ob) (h : (z22 x a b).heap.get j = some o) : (z22 x a b).may j = false := by
  obtain ⟨rfl, _⟩ := fam_get (orc := []) (show (smSt 1 [some (.fam x.F)] []).heap.get j = some o from h)
  rfl
theorem took22 (x : MX) (a b : OV) (h : Int) (e : Bool) (M : List Int) (m k P c' : Nat) (v : VF) : TookS (s22r x a b h e M m k v) (s22t (x.wD (updF x.D P M)) a b h e P m c' v) x.F (fun g => Nat.beq g 1000) 1000 4 3 2 (.ints .u8 M) (.lit [.int .u16 h, .bool e, .slice (some ⟨4, 0, some 1⟩) m k]) 45 m P c' where
  next := rfl
  roB := rfl
  ro := rfl
  hid := rfl
  defers := rfl
  tmps := rfl
  zero := by rw [← putB_F]; kernel_rfl
  gone := by kernel_rfl
  cell := ⟨.lit [.int .u16 h, .bool e, PB_ P m c'], by kernel_rfl, fun k u hu => by
    rcases k with _ | _ | _ | k
    · exact .inr ⟨by decide, hu⟩
    · exact .inr ⟨by decide, hu⟩
    · cases hu; exact .inl ⟨rfl, rfl⟩
    · cases hu⟩
  rest := fun j h0 hb hm => (took20 x a b h e M m k P c' v).rest j h0 hb hm
theorem sub22 (x : MX) (a b : OV) (h : Int) (e : Bool) (q : Int) (i k : Nat) (v : VF) : Sub (s22iC x a b h e q i k v) (s22iB x a b h e [q] 1 1 i k v) :=
  Sub.block rfl rfl rfl rfl (g22c5 x a b h e q i k v) (g22b5 x a b h e [q] 1 1 i k v) (one_ints q) fun j hj => by
    show (Tr.rebuild _ _).get j = (Tr.rebuild _ _).get j
    rw [Tr.get_rebuild _ _ _ (by decide), Tr.get_rebuild _ _ _ (by decide)]
    split
    · rcases j with _ | _ | _ | _ | _ | _ | j
      · rfl
      · rfl
      · rfl
      · rfl
      · rfl
      · exact absurd rfl hj
      · rfl
    · rfl
def InI (x : MX) (a b : OV) (h : Int) (e : Bool) (i k : Nat) (L : List Int) (s : St) : Prop := (L = [] ∧ ∃ v, (∀ j, DeadV (v j)) ∧ s = s22iA x a b h e i k v) ∨ (0 < L.length ∧ ∃ v, (∀ j, DeadV (v j)) ∧ s = s22iB x a b h e L L.length L.length i k v)
def InO (x : MX) (a b : OV) (h : Int) (e : Bool) (i : Nat) (L : List Int) (s : St) : Prop := (L = [] ∧ ∃ v, (∀ j, DeadV (v j)) ∧ s = s22oA x a b h e i v) ∨ (0 < L.length ∧ ∃ v, (∀ j, DeadV (v j)) ∧ s = s22oB x a b h e L L.length L.length i v)
theorem inner22 {x : MX} {a b : OV} {h : Int} {e : Bool} {i : Nat} {L : List Int} {s : St} {ρ0 : Nat → PB} {W0 : World} (hA : capOk x a.P a.n) (hB : capOk x b.P b.n) (hi : i < a.n) (hL : L.length ≤ 1000000) (h0 : InI x a b h e i 0 L s) : StepW Try.prog none (z22 x a b) ρ0 W0 (.loop m22) s fun ex s => ex = .exit 2 ∧ InI x a b h e i b.n (accI x a b i L b.n) s := by
  obtain ⟨p1, p2, p3⟩ := hA
  obtain ⟨r1, r2, r3⟩ := hB
  refine runLoopW (id := 2) (N := b.n) (I := fun k s => InI x a b h e i k (accI x a b i L k) s) ?_ ?_ h0
  · intro k s hk hI
    have ei := ix2_eq i
    have ek := ix2_eq k
    have c0 : decide (nI k < nI b.n) = true := decide_eq_true (by unfold nI; omega)
    have c1 : 0 ≤ nI i ∧ nI i < nI a.n := by unfold nI; omega
    have c2 : (0 + i * 2) % 2 = 0 ∧ (0 + i * 2) / 2 < x.CN a.P := by omega
    have c3 : 0 ≤ nI k ∧ nI k < nI b.n := by unfold nI; omega
    have c4 : (0 + k * 2) % 2 = 0 ∧ (0 + k * 2) / 2 < x.CN b.P := by omega
    have cw : IntKind.i64.wrap (nI k + 1) = nI k + 1 := by rw [IntKind.wrap_i64]; unfold nI; omega
    have hl := accI_len x a b i L k
    have ha : accI x a b i L (k + 1) = accI x a b i L k ++ (bif (x.CK a.P i) == (x.CK b.P k) then [x.CK a.P i] else []) := rfl
    cases hh : ((x.CK a.P i) == (x.CK b.P k)) with
    | false =>
      have hh2 : ((x.CK a.P (ix2 i)) == (x.CK b.P (ix2 k))) = false := by rw [ei, ek]; exact hh
      have ha2 : accI x a b i L (k + 1) = accI x a b i L k := by rw [ha, hh]; exact List.append_nil _
      rcases hI with ⟨h0, v, hv, rfl⟩ | ⟨h0, v, hv, rfl⟩
      · refine ((StepG.stdT (s0 := z22 x a b) (rd := none) pg KN_ok (k22AS x a b h e i k v) ⟨⟨⟨⟨⟨⟨⟨trivial, c0⟩, c1⟩, c2⟩, c3⟩, c4⟩, hh2⟩, cw⟩ (show 1 ≤ 5 by decide) (tm22i_dead (VS22_dead hv) lvS22) (h20a_ok x a b h e) rfl (ok22AS x x a b h e i k v)).at ρ0 W0).mono ?_
        rintro ex s ⟨rfl, rfl⟩
        exact ⟨rfl, .inl ⟨by rw [ha2]; exact h0, VS22 v, VS22_dead hv, rfl⟩⟩
      · refine ((StepG.stdT (s0 := z22 x a b) (rd := none) pg KN_ok (k22BS x a b h e _ _ _ i k v) ⟨⟨⟨⟨⟨⟨⟨trivial, c0⟩, c1⟩, c2⟩, c3⟩, c4⟩, hh2⟩, cw⟩ (show 1 ≤ 6 by decide) (tm22i_dead (VS22_dead hv) lvS22) (h20b_ok x a b h e _ _ _) rfl (ok22BS x x a b h e _ _ _ i k v)).at ρ0 W0).mono ?_
        rintro ex s ⟨rfl, rfl⟩
        exact ⟨rfl, .inr ⟨by rw [ha2]; exact h0, VS22 v, VS22_dead hv, by rw [ha2]⟩⟩
    | true =>
      have hh2 : ((x.CK a.P (ix2 i)) == (x.CK b.P (ix2 k))) = true := by rw [ei, ek]; exact hh
      have ha2 : accI x a b i L (k + 1) = accI x a b i L k ++ [x.CK a.P i] := by rw [ha, hh]; rfl
      rcases hI with ⟨h0, v, hv, rfl⟩ | ⟨h0, v, hv, rfl⟩
      · refine StepW.turn ((StepG.stdT (s0 := z22 x a b) (rd := none) pg KN_ok (k22AH x a b h e i k v) ⟨⟨⟨⟨⟨⟨⟨⟨⟨trivial, c0⟩, c1⟩, c2⟩, c3⟩, c4⟩, hh2⟩, c1⟩, c2⟩, cw⟩ (show 1 ≤ 5 by decide) (tm22i_dead (VH22_dead hv) lvH22) (h20c_ok x a b h e _) rfl (ok22AH x x a b h e i k v)).at ρ0 W0) ?_
        rintro ex s w a' ⟨rfl, rfl⟩ hs0 hp
        have hp2 := hp.sub (sub22 x a b h e _ i (k + 1) (VH22 v)) rfl rfl fun j hj hm => (by
          show (Tr.rebuild _ _).get j = (Tr.rebuild _ _).get j
          rw [Tr.get_rebuild _ _ _ (by decide), Tr.get_rebuild _ _ _ (by decide)]
          have hj1 : j < 1 := by
            unfold St.may at hm
            simp only [Bool.and_eq_false_iff, decide_eq_false_iff_not, Bool.not_eq_false'] at hm
            rcases hm with hm | hm
            · have : ¬ 1 ≤ j := hm
              omega
            · simp [z22, smSt] at hm
          omega)
        refine ⟨_, ⟨rfl, .inr ⟨?_, VH22 v, VH22_dead hv, ?_⟩⟩, hp2⟩
        · rw [ha2, h0]; exact Nat.zero_lt_one
        · rw [ha2, h0, ei]; rfl
      · refine ((StepG.stdT (s0 := z22 x a b) (rd := none) pg KN_ok (k22BH x a b h e _ _ _ i k v) ⟨⟨⟨⟨⟨⟨⟨⟨⟨⟨⟨trivial, c0⟩, c1⟩, c2⟩, c3⟩, c4⟩, hh2⟩, c1⟩, c2⟩, decide_eq_false (by omega)⟩, by rw [Nat.zero_add]; exact ⟨Nat.le_refl _, by omega, by unfold mostBytes; omega, by unfold mostBytes; omega⟩⟩, cw⟩ (show 1 ≤ 6 by decide) (tm22i_dead (VH22_dead hv) lvH22) (h20b_ok x a b h e _ _ _) rfl (ok22BH x x a b h e _ _ (accI x a b i L k).length i k v)).at ρ0 W0).mono ?_
        rintro ex s ⟨rfl, rfl⟩
        refine ⟨rfl, .inr ⟨by rw [ha2, List.length_append]; omega, VH22 v, VH22_dead hv, ?_⟩⟩
        rw [ha2, List.length_append, List.drop_zero, List.take_of_length_le (Nat.le_refl _), ei]; rfl
  · rintro s (⟨h0, v, hv, rfl⟩ | ⟨h0, v, hv, rfl⟩)
    · refine ((StepG.stdT (s0 := z22 x a b) (rd := none) pg KN_ok (k22AY x a b h e i b.n v) ⟨trivial, decide_eq_false (by omega)⟩ (show 1 ≤ 5 by decide) (tm22i_dead (VY22_dead hv) lvY22) (h20a_ok x a b h e) rfl (ok22AY x x a b h e i b.n v)).at ρ0 W0).mono ?_
      rintro ex s ⟨rfl, rfl⟩
      exact ⟨rfl, .inl ⟨h0, VY22 v, VY22_dead hv, rfl⟩⟩
    · refine ((StepG.stdT (s0 := z22 x a b) (rd := none) pg KN_ok (k22BY x a b h e _ _ _ i b.n v) ⟨trivial, decide_eq_false (by omega)⟩ (show 1 ≤ 6 by decide) (tm22i_dead (VY22_dead hv) lvY22) (h20b_ok x a b h e _ _ _) rfl (ok22BY x x a b h e _ _ _ i b.n v)).at ρ0 W0).mono ?_
      rintro ex s ⟨rfl, rfl⟩
      exact ⟨rfl, .inr ⟨h0, VY22 v, VY22_dead hv, rfl⟩⟩
theorem round22 {x : MX} {a b : OV} {h : Int} {e : Bool} {i : Nat} {s : St} {ρ0 : Nat → PB} {W0 : World} (hA : capOk x a.P a.n) (hB : capOk x b.P b.n) (hi : i < a.n) (hI : InO x a b h e i (accR x a b i) s) : StepW Try.prog none (z22 x a b) ρ0 W0 l22 s fun ex s => ex = .normal ∧ InO x a b h e (i + 1) (accR x a b (i + 1)) s := by
  have hl := accR_len (x := x) (a := a) hB.2.1 i
  have p2 := hA.2.1
  have c1 : decide (nI i < nI a.n) = true := decide_eq_true (by unfold nI; omega)
  have cw : IntKind.i64.wrap (nI i + 1) = nI i + 1 := by rw [IntKind.wrap_i64]; unfold nI; omega
  have fin : ∀ s, InI x a b h e i b.n (accR x a b (i + 1)) s → StepW Try.prog none (z22 x a b) ρ0 W0 q22 s fun ex s => ex = .normal ∧ InO x a b h e (i + 1) (accR x a b (i + 1)) s := by
    rintro s (⟨h0, v, hv, rfl⟩ | ⟨h0, v, hv, rfl⟩)
    · refine ((StepG.stdT (s0 := z22 x a b) (rd := none) pg KN_ok (k22AQ x a b h e i b.n v) ⟨trivial, cw⟩ (show 1 ≤ 5 by decide) (tm22o_dead (VQ22_dead hv) lvQ22) (h20a_ok x a b h e) rfl (ok22AQ x x a b h e i b.n v)).at ρ0 W0).mono ?_
      rintro ex s ⟨rfl, rfl⟩
      exact ⟨rfl, .inl ⟨h0, VQ22 v, VQ22_dead hv, rfl⟩⟩
    · refine ((StepG.stdT (s0 := z22 x a b) (rd := none) pg KN_ok (k22BQ x a b h e _ _ _ i b.n v) ⟨trivial, cw⟩ (show 1 ≤ 6 by decide) (tm22o_dead (VQ22_dead hv) lvQ22) (h20b_ok x a b h e _ _ _) rfl (ok22BQ x x a b h e _ _ _ i b.n v)).at ρ0 W0).mono ?_
      rintro ex s ⟨rfl, rfl⟩
      exact ⟨rfl, .inr ⟨h0, VQ22 v, VQ22_dead hv, rfl⟩⟩
  rcases hI with ⟨h0, v, hv, rfl⟩ | ⟨h0, v, hv, rfl⟩
  · refine StepW.downs pg KN_ok (k22AO x a b h e i v) ⟨trivial, c1⟩ (tm22i_dead (VO22_dead hv) lvO22) (h20a_ok x a b h e) rfl (ok22AO x x a b h e i v) ?_
    rw [up22r]
    refine (inner22 hA hB hi (by omega) (.inl ⟨h0, VO22 v, VO22_dead hv, rfl⟩)).mono ?_
    rintro ex s ⟨rfl, hI⟩
    exact .inl ⟨rfl, fin s hI⟩
  · refine StepW.downs pg KN_ok (k22BO x a b h e _ _ _ i v) ⟨trivial, c1⟩ (tm22i_dead (VO22_dead hv) lvO22) (h20b_ok x a b h e _ _ _) rfl (ok22BO x x a b h e _ _ _ i v) ?_
    rw [up22r]
    refine (inner22 hA hB hi (by omega) (.inr ⟨h0, VO22 v, VO22_dead hv, rfl⟩)).mono ?_
    rintro ex s ⟨rfl, hI⟩
    exact .inl ⟨rfl, fin s hI⟩
theorem loop22 {x : MX} {a b : OV} {h : Int} {e : Bool} {v0 : VF} {ρ0 : Nat → PB} {W0 : World} (hA : capOk x a.P a.n) (hB : capOk x b.P b.n) (hv0 : ∀ j, DeadV (v0 j)) : StepW Try.prog none (z22 x a b) ρ0 W0 (.loop l22) (s22oA x a b h e 0 v0) fun ex s => ex = .exit 0 ∧ InO x a b h e a.n (accR x a b a.n) s := by
  have p2 := hA.2.1
  refine runLoopW (id := 0) (N := a.n) (I := fun i s => InO x a b h e i (accR x a b i) s) (fun i s hi hI => round22 hA hB hi hI) ?_ (.inl ⟨rfl, v0, hv0, rfl⟩)
  rintro s (⟨h0, v, hv, rfl⟩ | ⟨h0, v, hv, rfl⟩)
  · refine ((StepG.stdT (s0 := z22 x a b) (rd := none) pg KN_ok (k22AX x a b h e a.n v) ⟨trivial, decide_eq_false (by omega)⟩ (show 1 ≤ 5 by decide) (tm22o_dead (VX22_dead hv) lvX22) (h20a_ok x a b h e) rfl (ok22AX x x a b h e a.n v)).at ρ0 W0).mono ?_
    rintro ex s ⟨rfl, rfl⟩
    exact ⟨rfl, .inl ⟨h0, VX22 v, VX22_dead hv, rfl⟩⟩
  · refine ((StepG.stdT (s0 := z22 x a b) (rd := none) pg KN_ok (k22BX x a b h e _ _ _ a.n v) ⟨trivial, decide_eq_false (by omega)⟩ (show 1 ≤ 6 by decide) (tm22o_dead (VX22_dead hv) lvX22) (h20b_ok x a b h e _ _ _) rfl (ok22BX x x a b h e _ _ _ a.n v)).at ρ0 W0).mono ?_
    rintro ex s ⟨rfl, rfl⟩
    exact ⟨rfl, .inr ⟨h0, VX22 v, VX22_dead hv, rfl⟩⟩
def Q22 (x : MX) (a b : OV) (W0 : World) : Exit → St → Prop := fun e s' => leaves? e = true ∧ s'.defers = [] ∧ ∃ F' q, s'.heap.get 0 = some (.fam F') ∧ Fresh W0 x.F F' ∧ results1 Try.prog s' [.cell 4 45] = some q ∧ q.2.obl ∧ farW (oneOf q.1) = true ∧ SesR x (lessH a b) (a.asn == b.asn) (accR x a b a.n) F' (oneOf q.1)
theorem end22 {x : MX} {a b : OV} {v0 : VF} {ρ0 : Nat → PB} {W0 : World} (hA : capOk x a.P a.n) (hB : capOk x b.P b.n) (hv0 : ∀ j, DeadV (v0 j)) {h : Int} (hh : lessH a b = h) : StepW Try.prog none (z22 x a b) ρ0 W0 (.loop l22) (s22oA x a b h (a.asn == b.asn) 0 v0) fun e s => (fun e s => (e = .normal ∧ StepW Try.prog none (z22 x a b) ρ0 W0 e22 s (Q22 x a b W0)) ∨ (e ≠ .normal ∧ Q22 x a b W0 e s)) (blockOut 0 e) s := by
  refine (loop22 hA hB hv0).mono ?_
  subst hh
  rintro e s ⟨rfl, ⟨hl, v, hv, rfl⟩ | ⟨hl, v, hv, rfl⟩⟩
  · refine .inl ⟨rfl, ?_⟩
    refine ((StepG.stdT (s0 := z22 x a b) (rd := none) pg KN_ok (k22AE x a b _ _ a.n v) trivial (show 1 ≤ 5 by decide) (tm22e_dead (VE22_dead hv) lvE22) (h20n_ok x a b _ _) rfl (ok22AE x x a b _ _ a.n v)).at ρ0 W0).mono ?_
    rintro e s ⟨rfl, rfl⟩
    have h2 := res22n x a b (lessH a b) (a.asn == b.asn) (VE22 v)
    cases hq : results1 Try.prog (s22n x a b (lessH a b) (a.asn == b.asn) (VE22 v)) [.cell 4 45] with
    | none => rw [hq] at h2; cases h2
    | some q =>
    rw [hq] at h2
    simp only [Option.map_some, Option.some.injEq, Prod.mk.injEq] at h2
    refine ⟨rfl, rfl, _, q, g22n0 x a b _ _ _, Fresh.refl _ _, hq, by rw [h2.2]; trivial, by rw [h2.1]; rfl, .inl ⟨hl, rfl, by rw [h2.1]; rfl⟩⟩
  · refine .inl ⟨rfl, ?_⟩
    refine StepW.turn ((StepG.stdT (s0 := z22 x a b) (rd := none) pg KN_ok (k22BE x a b _ _ _ _ _ a.n v) trivial (show 1 ≤ 6 by decide) (tm22e_dead (VE22_dead hv) lvE22) (h20r_ok x a b _ _ _ _ _) rfl (ok22BE x x a b _ _ _ _ _ a.n v)).at ρ0 W0) ?_
    rintro e s w a' ⟨rfl, rfl⟩ hs0 hp
    obtain ⟨P, c', hc, hP, hk, hp2⟩ := PicG.takeS (sg := 1000) (i := 2) (p := fun g => Nat.beq g 1000) (c := .ints .u8 (accR x a b a.n)) (fun P c' => s22t (x.wD (updF x.D P (accR x a b a.n))) a b (lessH a b) (a.asn == b.asn) P (accR x a b a.n).length c' (VE22 v)) hp (b := 4) (m := 3) (F := x.F) (g22r0 x a b _ _ _ _ _ _) (g22r4 x a b _ _ _ _ _ _) ints_fam (g22r3 x a b _ _ _ _ _ _) rfl (by decide) (by decide) (by decide) rfl rfl rfl rfl (z22_base x a b) (fun P c' => took22 x a b _ _ _ _ _ P c' _)
    rw [← putB_F] at hk
    have h2 := res22t (x.wD (updF x.D P (accR x a b a.n))) a b (lessH a b) (a.asn == b.asn) P (accR x a b a.n).length c' (VE22 v)
    cases hq : results1 Try.prog (s22t (x.wD (updF x.D P (accR x a b a.n))) a b (lessH a b) (a.asn == b.asn) P (accR x a b a.n).length c' (VE22 v)) [.cell 4 45] with
    | none => rw [hq] at h2; cases h2
    | some q =>
    rw [hq] at h2
    simp only [Option.map_some, Option.some.injEq, Prod.mk.injEq] at h2
    refine ⟨_, ⟨rfl, rfl, _, q, g22t0 _ a b _ _ _ _ _ _, ?_, hq, by rw [h2.2]; trivial, by rw [h2.1]; rfl, .inr ⟨hl, _, P, c', rfl, by rw [h2.1]; rfl, hk, updF_at _ _ _⟩⟩, hp2⟩
    rw [putB_F]; exact (Fresh.refl _ _).put hP
theorem meet22 {x : MX} {a b : OV} (hA : capOk x a.P a.n) (hB : capOk x b.P b.n) : MkOk Try.prog x.F 22 [a.v, b.v] (SesR x (lessH a b) (a.asn == b.asn) (accR x a b a.n)) := by
  refine mk_fn (s0 := z22 x a b) rfl fn22 fun ρ0 W0 => ?_
  show StepW Try.prog none (z22 x a b) ρ0 W0 b22 (z22 x a b) (Q22 x a b W0)
  cases hc : decide (b.hold < a.hold) with
  | true =>
    refine StepW.downs pg KN_ok (k22D1 x a b) ⟨trivial, hc⟩ (tm22o_dead (VD22_dead vU_dead) lvD22) (h20a_ok x a b _ _) rfl (ok22D x x a b _ _ 0 vU) ?_
    rw [up22]
    exact end22 hA hB (VD22_dead vU_dead) (by unfold lessH; rw [hc]; rfl)
  | false =>
    refine StepW.downs pg KN_ok (k22D2 x a b) ⟨trivial, hc⟩ (tm22o_dead (VD22_dead vU_dead) lvD22) (h20a_ok x a b _ _) rfl (ok22D x x a b _ _ 0 vU) ?_
    rw [up22]
    exact end22 hA hB (VD22_dead vU_dead) (by unfold lessH; rw [hc]; rfl)
end
end ob
end Go.Proofs.Ytpfmilkddapfiaa
