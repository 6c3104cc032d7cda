/- Read off the code by the clean reading. -/
import Derived.Test.YtpfmilkddapfiaaClnQd
import Derived.Test.YtpfmilkddapfiaaClnQc
import Derived.Test.YtpfmilkddapfiaaRows
import Derived.WalkKit
import Derived.ProofKit
import Derived.Below
import Derived.IntWalk
set_option linter.unusedVariables false
set_option linter.unusedSimpArgs false
set_option linter.deprecated false
set_option maxRecDepth 100000
namespace Go.Proofs.Ytpfmilkddapfiaa
open Go.ChangeShapes Go.WideShapes Go.ChangeAt Go.RowKit Go.Cln
namespace ob
set_option linter.unusedVariables false
theorem pg : PG Try.prog := PG.of (by decide +kernel)
theorem worksRuns : ((mk Try.prog Given.nothing 300).call 10 [] (St.start 0 .leaf [])).map (fun r => (r.1, r.2.obl)) = some (.bool true, True) := by kernel_rfl
theorem works (W : World) : Calls Try.prog 10 #[] W fun e w' => e = .returned (.bool true) ∧ Below W.heap.size W w' := ran pg (GivenOk.nothing _) worksRuns trivial rfl rfl W
noncomputable section
def rp (v : Value) : Nat → List Value → List Value
  | 0, l => l
  | n + 1, l => v :: rp v n l
def vs (v : Nat → Value) (b : Nat) : Nat → List Value → List Value
  | 0, l => l
  | k + 1, l => vs v b k (v (b + k) :: l)
theorem deadT_vs {B : Nat → Bool} {v : Nat → Value} (h : ∀ i, DeadV (v i)) : ∀ (n : Nat) {a b : Nat} {l : List Value}, deadT B (a + n) l → deadT B a (vs v b n l)
  | 0, _, _, _, g => g
  | n + 1, a, b, l, g => deadT_vs h n (a := a) (b := b) (l := v (b + n) :: l) ⟨fun _ => h _, g⟩
theorem dl {B : Nat → Bool} {i : Nat} {v : Value} {l : List Value} (h : B i = true) (t : deadT B (i + 1) l) : deadT B i (v :: l) := ⟨fun e => absurd e (by rw [h]; decide), t⟩
theorem dn {B : Nat → Bool} {i : Nat} {v : Value} {l : List Value} (h : DeadV v) (t : deadT B (i + 1) l) : deadT B i (v :: l) := ⟨fun _ => h, t⟩
theorem jl {a b : Bool} (h : a = true) : (a || b) = true := by rw [h]; rfl
theorem jD {W : Nat → Bool} {v : Nat → Value} (h : ∀ i, DeadV (v i)) (i : Nat) : DeadV (match W i with | true => junk | false => v i) := by
  split
  · exact DeadV.junk
  · exact h i
abbrev VF := Nat → Value
def vU : VF := fun _ => undef
theorem vU_dead (i : Nat) : DeadV (vU i) := DeadV.undef
def dropC : Nat → Code → Code
  | 0, c => c
  | k + 1, .seq x y => dropC k y
  | _ + 1, c => c
structure MX where
  D : Nat → List Int
  CN : Nat → Nat
  CK : Nat → Nat → Int
  CQ : Nat → Nat → Nat
  CM : Nat → Nat → Nat
  CC : Nat → Nat → Nat
abbrev PB_ (P n c : Nat) : Value := .slice (some ⟨P, 0, some 1000⟩) n c
abbrev PC (P n c : Nat) : Value := .slice (some ⟨P, 0, some 1003⟩) n c
def MX.cap (x : MX) (P i : Nat) : List Value := [.int .u8 (x.CK P i), PB_ (x.CQ P i) (x.CM P i) (x.CC P i)]
def MX.F (x : MX) (g P : Nat) : Cells := match Nat.beq g 1000 with
  | true => .ints .u8 (x.D P)
  | false => .rows (x.CN P) 2 (x.cap P)
theorem beq_ne {n m : Nat} (h : ¬ n = m) : Nat.beq n m = false := by
  cases e : Nat.beq n m with
  | false => rfl
  | true => exact absurd (Nat.eq_of_beq_eq_true e) h
theorem beq_self (n : Nat) : Nat.beq n n = true := Nat.beq_refl n
def strE (x : MX) (P n Q m : Nat) : Bool := beqB (bytesI (((x.D P).drop 0).take n)).toList (bytesI (((x.D Q).drop 0).take m)).toList
def ix2 (i : Nat) : Nat := (0 + i * 2) / 2
theorem ix2_eq (i : Nat) : ix2 i = i := by unfold ix2; omega
def ix3 (i : Nat) : Nat := (0 + i * 2 + 1) / 2
theorem ix3_eq (i : Nat) : ix3 i = i := by unfold ix3; omega
def capE (x : MX) (P Q i : Nat) : Bool := (x.CK P (ix2 i) == x.CK Q (ix2 i)) && strE x (x.CQ P (ix2 i)) (x.CM P (ix2 i)) (x.CQ Q (ix2 i)) (x.CM Q (ix2 i))
def capsE (x : MX) (P n Q m : Nat) : Bool := Nat.beq n m && allB (capE x P Q) n
def bytOk (x : MX) (P n : Nat) : Prop := n ≤ (x.D P).length ∧ n ≤ 1000
def capOk (x : MX) (P n : Nat) : Prop := n ≤ x.CN P ∧ n ≤ 1000 ∧ ∀ i, i < n → bytOk x (x.CQ P i) (x.CM P i)
structure OV where
  asn : Int
  hold : Int
  id : Int
  P : Nat
  n : Nat
  c : Nat
def OV.l (a : OV) : List Value := [.int .u32 a.asn, .int .u16 a.hold, .int .u32 a.id, PC a.P a.n a.c]
def OV.v (a : OV) : Value := .agg a.l.toArray
def openE (x : MX) (a b : OV) : Bool := (a.asn == b.asn) && ((a.hold == b.hold) && ((a.id == b.id) && capsE x a.P a.n b.P b.n))
def cv (k : Int) (P n c : Nat) : Value := .agg #[.int .u8 k, PB_ P n c]
theorem agg_eq {a : Array Value} {l : List Value} (h : a.toList = l) : a = l.toArray := by rw [← h]
def ovOf (a : Array Value) : Option OV := match a.toList with
  | [.int .u32 s, .int .u16 h, .int .u32 i, .slice (some ⟨P, 0, some 1003⟩) n c] => some ⟨s, h, i, P, n, c⟩
  | _ => none
theorem ovOf_eq {a : Array Value} {v : OV} (h : ovOf a = some v) : a = v.l.toArray := by
  unfold ovOf at h
  split at h
  · rename_i e; cases h; exact agg_eq e
  · cases h
def KN : Given := { Given.nothing with fits := true }
theorem KN_ok : GivenOk Try.prog KN := frames_fits (GivenOk.nothing _) true
end
end ob
end Go.Proofs.Ytpfmilkddapfiaa
namespace Go.Proofs.Ytpfmilkddapfiaa
open Go.ChangeShapes Go.WideShapes Go.ChangeAt Go.RowKit Go.Cln
namespace ob
set_option linter.unusedVariables false
noncomputable section
def cvOf (a : Array Value) : Option (Int × Nat × Nat × Nat) := match a.toList with
  | [.int .u8 k, .slice (some ⟨P, 0, some 1000⟩) n c] => some (k, P, n, c)
  | _ => none
theorem cvOf_eq {a : Array Value} {u : Int × Nat × Nat × Nat} (h : cvOf a = some u) : Value.agg a = cv u.1 u.2.1 u.2.2.1 u.2.2.2 := by
  unfold cvOf at h
  split at h
  · rename_i e
    cases h
    exact congrArg Value.agg (by rw [← Array.toList_inj, e] <;> rfl)
  · cases h
theorem ovOf_v {a : Array Value} {u : OV} (h : ovOf a = some u) : Value.agg a = u.v := congrArg Value.agg (ovOf_eq h)
theorem k45 (x : MX) (P n c Q m d : Nat) : ((mk Try.prog KN 200).call 45 [PB_ P n c, PB_ Q m d] (smSt 1 [some (.fam x.F)] [])).map (fun r => (r.1, r.2.obl)) = some (.bool (strE x P n Q m), (True ∧ (n = 0 ∨ 0 + n ≤ (x.D P).length)) ∧ (m = 0 ∨ 0 + m ≤ (x.D Q).length)) := by kernel_rfl
theorem rd45 {x : MX} {P n c Q m d : Nat} (hP : bytOk x P n) (hQ : bytOk x Q m) : Rd Try.prog x.F 45 [PB_ P n c, PB_ Q m d] (.bool (strE x P n Q m)) :=
  Rd.run pg KN_ok (k45 x P n c Q m d) ⟨⟨trivial, by have := hP.1; omega⟩, by have := hQ.1; omega⟩ rfl
noncomputable def rw45 (x : MX) (args : List Value) : Option (Value × Prop) := match args with
  | [.slice (some ⟨P, 0, some 1000⟩) n c, .slice (some ⟨Q, 0, some 1000⟩) m d] => some (.bool (strE x P n Q m), bytOk x P n ∧ bytOk x Q m)
  | _ => none
theorem rw45_ok (x : MX) {args : List Value} {r : Value × Prop} (h : rw45 x args = some r) : flat r.1 = true ∧ args.all farV = true ∧ (r.2 → Rd Try.prog x.F 45 args r.1) := by
  unfold rw45 at h
  split at h
  · rename_i P n c Q m d
    cases h
    exact ⟨rfl, rfl, fun hp => rd45 hp.1 hp.2⟩
  · cases h
noncomputable def T1 (x : MX) (f : FuncId) (args : List Value) : Option (Value × Prop) := if f == 45 then rw45 x args else none
theorem T1_ok (x : MX) (f : FuncId) (args : List Value) (r : Value × Prop) (h : T1 x f args = some r) : flat r.1 = true ∧ args.all farV = true ∧ (r.2 → Rd Try.prog x.F f args r.1) := by
  unfold T1 at h
  by_cases e45 : (f == 45) = true
  · have hf : f = 45 := by simpa using e45
    subst hf
    exact rw45_ok x h
  rw [if_neg e45] at h
  cases h
noncomputable def K1 (x : MX) : Given := { Given.rds Given.nothing x.F (T1 x) with fits := true }
theorem K1_ok (x : MX) : GivenOk Try.prog (K1 x) := frames_fits ((GivenOk.nothing _).rds (T1_ok x)) true
theorem k44t (x : MX) (k l : Int) (P n c Q m d : Nat) : ((mk Try.prog (K1 x) 200).call 44 [cv k P n c, cv l Q m d] (smSt 1 [some (.fam x.F)] [some true])).map (fun r => (r.1, r.2.obl)) = some (.bool (strE x P n Q m), (True ∧ (k == l) = true) ∧ (x.F = x.F ∧ bytOk x P n ∧ bytOk x Q m)) := by kernel_rfl
theorem k44f (x : MX) (k l : Int) (P n c Q m d : Nat) : ((mk Try.prog (K1 x) 200).call 44 [cv k P n c, cv l Q m d] (smSt 1 [some (.fam x.F)] [some false])).map (fun r => (r.1, r.2.obl)) = some (.bool false, True ∧ (k == l) = false) := by kernel_rfl
theorem rd44 {x : MX} {k l : Int} {P n c Q m d : Nat} (hP : bytOk x P n) (hQ : bytOk x Q m) : Rd Try.prog x.F 44 [cv k P n c, cv l Q m d] (.bool ((k == l) && strE x P n Q m)) := by
  cases h : (k == l) with
  | true => exact Rd.run pg (K1_ok x) (k44t x k l P n c Q m d) ⟨⟨trivial, h⟩, rfl, hP, hQ⟩ rfl
  | false => exact Rd.run pg (K1_ok x) (k44f x k l P n c Q m d) ⟨trivial, h⟩ rfl
noncomputable def rw44 (x : MX) (args : List Value) : Option (Value × Prop) := match args with
  | [.agg z0, .agg z1] => (cvOf z0).bind fun u => (cvOf z1).bind fun w => some (.bool ((u.1 == w.1) && strE x u.2.1 u.2.2.1 w.2.1 w.2.2.1), bytOk x u.2.1 u.2.2.1 ∧ bytOk x w.2.1 w.2.2.1)
  | _ => none
theorem rw44_ok (x : MX) {args : List Value} {r : Value × Prop} (h : rw44 x args = some r) : flat r.1 = true ∧ args.all farV = true ∧ (r.2 → Rd Try.prog x.F 44 args r.1) := by
  unfold rw44 at h
  split at h
  · rename_i z0 z1
    rw [Option.bind_eq_some_iff] at h
    obtain ⟨u, hu, h⟩ := h
    rw [Option.bind_eq_some_iff] at h
    obtain ⟨w, hw, h⟩ := h
    cases h
    rw [cvOf_eq hu]
    rw [cvOf_eq hw]
    exact ⟨rfl, rfl, fun hp => rd44 hp.1 hp.2⟩
  · cases h
noncomputable def T2 (x : MX) (f : FuncId) (args : List Value) : Option (Value × Prop) := if f == 44 then rw44 x args else T1 x f args
theorem T2_ok (x : MX) (f : FuncId) (args : List Value) (r : Value × Prop) (h : T2 x f args = some r) : flat r.1 = true ∧ args.all farV = true ∧ (r.2 → Rd Try.prog x.F f args r.1) := by
  unfold T2 at h
  by_cases e44 : (f == 44) = true
  · have hf : f = 44 := by simpa using e44
    subst hf
    exact rw44_ok x h
  rw [if_neg e44] at h
  exact T1_ok x f args r h
noncomputable def K2 (x : MX) : Given := { Given.rds Given.nothing x.F (T2 x) with fits := true }
theorem K2_ok (x : MX) : GivenOk Try.prog (K2 x) := frames_fits ((GivenOk.nothing _).rds (T2_ok x)) true
end
end ob
end Go.Proofs.Ytpfmilkddapfiaa
namespace Go.Proofs.Ytpfmilkddapfiaa
open Go.ChangeShapes Go.WideShapes Go.ChangeAt Go.RowKit Go.Cln
namespace ob
set_option linter.unusedVariables false
noncomputable section
def b46 : Code := ((Try.prog.funcs[46]?).bind (·.body)).getD .skip
def l46 : Code := loopB Try.prog 46 0
def e46 : Code := dropC 3 b46
theorem fn46 : (Try.prog.funcs[46]?).map (fun f => (f.body, f.results.toList, f.ntmps)) = some (some b46, [.tmp 6], 32) := by kernel_rfl
noncomputable abbrev a46 (P n c Q m d : Nat) : List Value := [PC P n c, PC Q m d, .func (.func 44) #[] #[]]
noncomputable def z46 (x : MX) (P n c Q m d : Nat) : St := { smSt 1 [some (.fam x.F)] [] with tmps := a46 P n c Q m d ++ List.replicate (32 - (a46 P n c Q m d).length) undef, defers := [] }
noncomputable def tm46 (v : VF) (P n c Q m d : Nat) (i : Nat) : List Value := (PC P n c :: PC Q m d :: .func (.func 44) #[] #[] :: vs v 3 12 (PC P n c :: .int .i64 (nI n) :: .int .i64 (nI i) :: vs v 18 14 []))
theorem tm46_dead {v : VF} {P n c Q m d : Nat} {i : Nat} {B : Nat → Bool} (h : ∀ i, DeadV (v i)) (hB : ∀ i, ((Nat.ble 0 i && Nat.ble i 2) || (Nat.ble 15 i && Nat.ble i 17)) = true → B i = true) : deadT B 0 (tm46 v P n c Q m d i) :=
  dl (hB 0 rfl) (dl (hB 1 rfl) (dl (hB 2 rfl) (deadT_vs h 12 (dl (hB 15 rfl) (dl (hB 16 rfl) (dl (hB 17 rfl) (deadT_vs h 14 (trivial))))))))
noncomputable def h46 (x : MX) (P n c Q m d : Nat) : Nat → Option Ob := fun i => match i with
  | 0 => some (.fam x.F)
  | _ => none
theorem h46_ok (x : MX) (P n c Q m d : Nat) : Go.Cln.RowsIn (h46 x P n c Q m d) := by
  intro b n' w' g' t h
  unfold h46 at h
  split at h <;> first | (cases h; done) | cases h
noncomputable def s46 (x : MX) (P n c Q m d : Nat) (i : Nat) (v : VF) : St := ⟨tm46 v P n c Q m d i, [], Tr.rebuild (h46 x P n c Q m d) 1, 1, 1, [], fun _ => false, True, []⟩
def go46 (K : Given) (c : Code) (s : St) (o : List (Option Bool)) : Option (Exit × St) := (mk Try.prog K 200).code 46 none c { s with obl := True, orc := o }
def gd46 (K : Given) (s : St) (o : List (Option Bool)) : Option (St × Code) := down (mk Try.prog K 200) 46 none [2, 2, 3, 2, 0] b46 { s with obl := True, orc := o }
def WD46 (i : Nat) : Bool := Nat.beq i 6 || (Nat.ble 10 i && Nat.ble i 14)
noncomputable def VD46 (v : VF) : VF := fun i => match WD46 i with
  | true => junk
  | false => v i
def BD46 (i : Nat) : Bool := ((Nat.ble 0 i && Nat.ble i 2) || (Nat.ble 15 i && Nat.ble i 17)) || WD46 i
theorem VD46_dead {v : VF} (h : ∀ i, DeadV (v i)) (i : Nat) : DeadV (VD46 v i) := jD (W := WD46) h i
theorem lvD46 (i : Nat) (h : ((Nat.ble 0 i && Nat.ble i 2) || (Nat.ble 15 i && Nat.ble i 17)) = true) : BD46 i = true := jl h
def WR46 (i : Nat) : Bool := (Nat.ble 7 i && Nat.ble i 9) || (Nat.ble 18 i && Nat.ble i 20) || (Nat.ble 22 i && Nat.ble i 24) || Nat.beq i 26 || (Nat.ble 29 i && Nat.ble i 31)
noncomputable def VR46 (v : VF) : VF := fun i => match Nat.beq i 21 with
  | true => .agg #[junk, junk]
  | false => match Nat.beq i 25 with
  | true => .agg #[junk, junk]
  | false => match Nat.beq i 27 with
  | true => .agg #[junk, junk]
  | false => match Nat.beq i 28 with
  | true => .agg #[junk, junk]
  | false => match WR46 i with
  | true => junk
  | false => v i
def BR46 (i : Nat) : Bool := ((Nat.ble 0 i && Nat.ble i 2) || (Nat.ble 15 i && Nat.ble i 17)) || WR46 i || Nat.beq i 21 || Nat.beq i 25 || Nat.beq i 27 || Nat.beq i 28
theorem VR46_dead {v : VF} (h : ∀ i, DeadV (v i)) (i : Nat) : DeadV (VR46 v i) := by
  unfold VR46
  split
  · exact ⟨rfl, fun _ => rfl, fun _ => rfl⟩
  split
  · exact ⟨rfl, fun _ => rfl, fun _ => rfl⟩
  split
  · exact ⟨rfl, fun _ => rfl, fun _ => rfl⟩
  split
  · exact ⟨rfl, fun _ => rfl, fun _ => rfl⟩
  split
  · exact DeadV.junk
  · exact h i
theorem lvR46 (i : Nat) (h : ((Nat.ble 0 i && Nat.ble i 2) || (Nat.ble 15 i && Nat.ble i 17)) = true) : BR46 i = true := jl (jl (jl (jl (jl h))))
def WX46 (i : Nat) : Bool := Nat.beq i 18
noncomputable def VX46 (v : VF) : VF := fun i => match WX46 i with
  | true => junk
  | false => v i
def BX46 (i : Nat) : Bool := ((Nat.ble 0 i && Nat.ble i 2) || (Nat.ble 15 i && Nat.ble i 17)) || WX46 i
theorem VX46_dead {v : VF} (h : ∀ i, DeadV (v i)) (i : Nat) : DeadV (VX46 v i) := jD (W := WX46) h i
theorem lvX46 (i : Nat) (h : ((Nat.ble 0 i && Nat.ble i 2) || (Nat.ble 15 i && Nat.ble i 17)) = true) : BX46 i = true := jl h
def pD_46 (x : MX) (P n c Q m d : Nat) (i : Nat) : Prop := (True ∧ (nI n != nI m) = false)
def pR_46 (x : MX) (P n c Q m d : Nat) (i : Nat) : Prop := ((((((((True ∧ decide (nI i < nI n) = true) ∧ (0 ≤ nI i ∧ nI i < nI n)) ∧ ((0 + i * 2) % 2 = 0 ∧ (0 + i * 2) / 2 < x.CN P)) ∧ (0 ≤ nI i ∧ nI i < nI m)) ∧ ((0 + i * 2) % 2 = 0 ∧ (0 + i * 2) / 2 < x.CN Q)) ∧ (x.F = x.F ∧ bytOk x (x.CQ P (ix2 i)) (x.CM P (ix2 i)) ∧ bytOk x (x.CQ Q (ix2 i)) (x.CM Q (ix2 i)))) ∧ (!(capE x P Q i)) = false) ∧ IntKind.i64.wrap (nI i + 1) = nI i + 1)
def pN0_46 (x : MX) (P n c Q m d : Nat) (i : Nat) : Prop := (True ∧ (nI n != nI m) = true)
def pF0_46 (x : MX) (P n c Q m d : Nat) (i : Nat) : Prop := (((((((True ∧ decide (nI i < nI n) = true) ∧ (0 ≤ nI i ∧ nI i < nI n)) ∧ ((0 + i * 2) % 2 = 0 ∧ (0 + i * 2) / 2 < x.CN P)) ∧ (0 ≤ nI i ∧ nI i < nI m)) ∧ ((0 + i * 2) % 2 = 0 ∧ (0 + i * 2) / 2 < x.CN Q)) ∧ (x.F = x.F ∧ bytOk x (x.CQ P (ix2 i)) (x.CM P (ix2 i)) ∧ bytOk x (x.CQ Q (ix2 i)) (x.CM Q (ix2 i)))) ∧ (!(capE x P Q i)) = true)
theorem kD46 (x : MX) (P n c Q m d : Nat) : (gd46 (K2 x) (z46 x P n c Q m d) [some false]).map (fun r => (r.2, r.1.obl, seenInT BD46 r.1 (s46 x P n c Q m d 0 (VD46 vU)) [0])) = some (.loop l46, pD_46 x P n c Q m d 0, seenAsT BD46 (s46 x P n c Q m d 0 (VD46 vU)) [0] 1) := by kernel_rfl
theorem kN0_46 (x : MX) (P n c Q m d : Nat) : ((mk Try.prog (K2 x) 200).call 46 (a46 P n c Q m d) (smSt 1 [some (.fam x.F)] [some true])).map (fun r => (r.1, r.2.obl)) = some (.bool false, pN0_46 x P n c Q m d 0) := by kernel_rfl
theorem kR46 (x : MX) (P n c Q m d : Nat) (i : Nat) (v : VF) : (go46 (K2 x) l46 (s46 x P n c Q m d i v) [some true, some true, some false, some true, some true, some false, some true, some false, some true]).map (fun r => (r.1, r.2.obl, seenInT BR46 r.2 (s46 x P n c Q m d (i + 1) (VR46 v)) [0])) = some (.normal, pR_46 x P n c Q m d i, seenAsT BR46 (s46 x P n c Q m d (i + 1) (VR46 v)) [0] 3) := by kernel_rfl
theorem kX46 (x : MX) (P n c Q m d : Nat) (i : Nat) (v : VF) : (go46 (K2 x) l46 (s46 x P n c Q m d i v) [some false]).map (fun r => (r.1, r.2.obl, seenInT BX46 r.2 (s46 x P n c Q m d i (VX46 v)) [0])) = some (.exit 0, True ∧ decide (nI i < nI n) = false, seenAsT BX46 (s46 x P n c Q m d i (VX46 v)) [0] 1) := by kernel_rfl
theorem kF0_46 (x : MX) (P n c Q m d : Nat) (i : Nat) (v : VF) : (go46 (K2 x) l46 (s46 x P n c Q m d i v) [some true, some true, some false, some true, some true, some false, some true, some true]).bind (fun r => (results1 Try.prog r.2 [.tmp 6]).map fun q => (r.1, q.2.obl, r.2.defers, oneOf q.1)) = some (.ret, pF0_46 x P n c Q m d i, [], .bool false) := by kernel_rfl
theorem kE46 (x : MX) (P n c Q m d : Nat) (i : Nat) (v : VF) : (go46 (K2 x) e46 (s46 x P n c Q m d i v) []).bind (fun r => (results1 Try.prog r.2 [.tmp 6]).map fun q => (r.1, q.2.obl, r.2.defers, oneOf q.1)) = some (.ret, True, [], .bool true) := by kernel_rfl
theorem okD46 (x : MX) (P n c Q m d : Nat) (i : Nat) (v : VF) : picOkT BD46 (z46 x P n c Q m d) (s46 x P n c Q m d i (VD46 v)) [0] = true := by kernel_rfl
theorem okR46 (x : MX) (P n c Q m d : Nat) (i : Nat) (v : VF) : picOkT BR46 (z46 x P n c Q m d) (s46 x P n c Q m d i (VR46 v)) [0] = true := by kernel_rfl
theorem okX46 (x : MX) (P n c Q m d : Nat) (i : Nat) (v : VF) : picOkT BX46 (z46 x P n c Q m d) (s46 x P n c Q m d i (VX46 v)) [0] = true := by kernel_rfl
theorem up46 (x : MX) (P n c Q m d : Nat) (Q_ : Exit → St → Prop) : upQ Try.prog none (z46 x P n c Q m d) [2, 2, 3, 2, 0] b46 Q_ = fun e s => (fun e s => (e = .normal ∧ StepG Try.prog none (z46 x P n c Q m d) e46 s Q_) ∨ (e ≠ .normal ∧ Q_ e s)) (blockOut 0 e) s := by kernel_rfl
theorem rd46 {x : MX} {P n c Q m d : Nat} (hP : capOk x P n) (hQ : capOk x Q m) : Rd Try.prog x.F 46 (a46 P n c Q m d) (.bool (capsE x P n Q m)) := by
  by_cases hnm : n = m
  rotate_left
  · rw [show capsE x P n Q m = false by unfold capsE; rw [beq_ne hnm]; rfl]
    exact Rd.run pg (K2_ok x) (kN0_46 x P n c Q m d) ⟨trivial, by simp [nI]; omega⟩ rfl
  subst hnm
  rw [show capsE x P n Q n = allB (capE x P Q) n by unfold capsE; rw [beq_self n]; rfl]
  obtain ⟨p1, p2, p3⟩ := hP
  obtain ⟨q1, q2, q3⟩ := hQ
  refine cmp_rd (way := [2, 2, 3, 2, 0]) (pic := fun i v => s46 x P n c Q n d i v) (e := capE x P Q) (N := n) (v0 := VD46 vU) (s0 := z46 x P n c Q n d) rfl fn46 (fun Q_ h => StepG.downs pg (K2_ok x) (kD46 x P n c Q n d) ⟨trivial, by simp⟩ (tm46_dead (VD46_dead vU_dead) lvD46) (h46_ok x P n c Q n d) rfl (okD46 x P n c Q n d 0 vU) h) (up46 x P n c Q n d) (fun i v hv hi he => ?_) (fun i v hv hi he => ?_) (fun v hv => ?_) (fun v hv => ?_) (VD46_dead vU_dead)
  · refine (StepG.stdT (s0 := z46 x P n c Q n d) (rd := none) pg (K2_ok x) (kR46 x P n c Q n d i v) ?_ (show 1 ≤ 1 by decide) (tm46_dead (VR46_dead hv) lvR46) (h46_ok x P n c Q n d) rfl (okR46 x P n c Q n d (i + 1) v)).mono ?_
    · exact ⟨⟨⟨⟨⟨⟨⟨⟨trivial, decide_eq_true (by unfold nI; omega)⟩, by unfold nI; omega⟩, by omega, by omega⟩, by unfold nI; omega⟩, by omega, by omega⟩, rfl, by rw [ix2_eq]; exact p3 i hi, by rw [ix2_eq]; exact q3 i hi⟩, by rw [he]; rfl⟩, by rw [IntKind.wrap_i64]; unfold nI; omega⟩
    · rintro ex s_ ⟨rfl, rfl⟩
      exact ⟨rfl, _, VR46_dead hv, rfl⟩
  · exact StepG.ranV (s0 := z46 x P n c Q n d) (rd := none) pg (K2_ok x) (kF0_46 x P n c Q n d i v) ⟨⟨⟨⟨⟨⟨⟨trivial, decide_eq_true (by unfold nI; omega)⟩, by unfold nI; omega⟩, by omega, by omega⟩, by unfold nI; omega⟩, by omega, by omega⟩, rfl, by rw [ix2_eq]; exact p3 i hi, by rw [ix2_eq]; exact q3 i hi⟩, by rw [he]; rfl⟩ (show 1 ≤ 1 by decide)
  · refine (StepG.stdT (s0 := z46 x P n c Q n d) (rd := none) pg (K2_ok x) (kX46 x P n c Q n d n v) ⟨trivial, decide_eq_false (by omega)⟩ (show 1 ≤ 1 by decide) (tm46_dead (VX46_dead hv) lvX46) (h46_ok x P n c Q n d) rfl (okX46 x P n c Q n d n v)).mono ?_
    rintro ex s_ ⟨rfl, rfl⟩
    exact ⟨rfl, _, VX46_dead hv, rfl⟩
  · exact StepG.ranV pg (K2_ok x) (kE46 x P n c Q n d n v) trivial (show 1 ≤ 1 by decide)
end
end ob
end Go.Proofs.Ytpfmilkddapfiaa
namespace Go.Proofs.Ytpfmilkddapfiaa
open Go.ChangeShapes Go.WideShapes Go.ChangeAt Go.RowKit Go.Cln
namespace ob
set_option linter.unusedVariables false
noncomputable section
theorem bne_t {α : Type} [BEq α] {a b : α} (h : (a == b) = false) : (a != b) = true := by unfold bne; rw [h]; rfl
theorem bne_f {α : Type} [BEq α] {a b : α} (h : (a == b) = true) : (a != b) = false := by unfold bne; rw [h]; rfl
def b16 : Code := ((Try.prog.funcs[16]?).bind (·.body)).getD .skip
def l16 : Code := loopB Try.prog 16 0
def e16 : Code := dropC 3 b16
theorem fn16 : (Try.prog.funcs[16]?).map (fun f => (f.body, f.results.toList, f.ntmps)) = some (some b16, [.tmp 4], 71) := by kernel_rfl
noncomputable abbrev a16 (a b : OV) : List Value := [a.v, b.v]
noncomputable def z16 (x : MX) (a b : OV) : St := { smSt 1 [some (.fam x.F)] [] with tmps := a16 a b ++ List.replicate (71 - (a16 a b).length) undef, defers := [] }
noncomputable def tm16 (v : VF) (a b : OV) (i : Nat) : List Value := (a.v :: b.v :: .pointer (some ⟨1, 0, none⟩) :: .pointer (some ⟨2, 0, none⟩) :: v 4 :: .int .i64 (nI i) :: vs v 6 65 [])
theorem tm16_dead {v : VF} {a b : OV} {i : Nat} {B : Nat → Bool} (h : ∀ i, DeadV (v i)) (hB : ∀ i, ((Nat.ble 0 i && Nat.ble i 3) || Nat.beq i 5) = true → B i = true) : deadT B 0 (tm16 v a b i) :=
  dl (hB 0 rfl) (dl (hB 1 rfl) (dl (hB 2 rfl) (dl (hB 3 rfl) (dn (h 4) (dl (hB 5 rfl) (deadT_vs h 65 (trivial)))))))
noncomputable def h16 (x : MX) (a b : OV) : Nat → Option Ob := fun i => match i with
  | 0 => some (.fam x.F)
  | 1 => some (.cells (.lit a.l) 26)
  | 2 => some (.cells (.lit b.l) 26)
  | _ => none
theorem h16_ok (x : MX) (a b : OV) : Go.Cln.RowsIn (h16 x a b) := by
  intro b n' w' g' t h
  unfold h16 at h
  split at h <;> first | (cases h; done) | cases h
noncomputable def s16 (x : MX) (a b : OV) (i : Nat) (v : VF) : St := ⟨tm16 v a b i, [], Tr.rebuild (h16 x a b) 3, 3, 1, [], fun _ => false, True, []⟩
def go16 (K : Given) (c : Code) (s : St) (o : List (Option Bool)) : Option (Exit × St) := (mk Try.prog K 200).code 16 none c { s with obl := True, orc := o }
def gd16 (K : Given) (s : St) (o : List (Option Bool)) : Option (St × Code) := down (mk Try.prog K 200) 16 none [2, 2, 3, 2, 0] b16 { s with obl := True, orc := o }
def WD16 (i : Nat) : Bool := Nat.beq i 4 || (Nat.ble 6 i && Nat.ble i 33)
noncomputable def VD16 (v : VF) : VF := fun i => match WD16 i with
  | true => junk
  | false => v i
def BD16 (i : Nat) : Bool := ((Nat.ble 0 i && Nat.ble i 3) || Nat.beq i 5) || WD16 i
theorem VD16_dead {v : VF} (h : ∀ i, DeadV (v i)) (i : Nat) : DeadV (VD16 v i) := jD (W := WD16) h i
theorem lvD16 (i : Nat) (h : ((Nat.ble 0 i && Nat.ble i 3) || Nat.beq i 5) = true) : BD16 i = true := jl h
def WR16 (i : Nat) : Bool := (Nat.ble 34 i && Nat.ble i 70)
noncomputable def VR16 (v : VF) : VF := fun i => match WR16 i with
  | true => junk
  | false => v i
def BR16 (i : Nat) : Bool := ((Nat.ble 0 i && Nat.ble i 3) || Nat.beq i 5) || WR16 i
theorem VR16_dead {v : VF} (h : ∀ i, DeadV (v i)) (i : Nat) : DeadV (VR16 v i) := jD (W := WR16) h i
theorem lvR16 (i : Nat) (h : ((Nat.ble 0 i && Nat.ble i 3) || Nat.beq i 5) = true) : BR16 i = true := jl h
def WX16 (i : Nat) : Bool := (Nat.ble 34 i && Nat.ble i 38)
noncomputable def VX16 (v : VF) : VF := fun i => match WX16 i with
  | true => junk
  | false => v i
def BX16 (i : Nat) : Bool := ((Nat.ble 0 i && Nat.ble i 3) || Nat.beq i 5) || WX16 i
theorem VX16_dead {v : VF} (h : ∀ i, DeadV (v i)) (i : Nat) : DeadV (VX16 v i) := jD (W := WX16) h i
theorem lvX16 (i : Nat) (h : ((Nat.ble 0 i && Nat.ble i 3) || Nat.beq i 5) = true) : BX16 i = true := jl h
def pD_16 (x : MX) (a b : OV) (i : Nat) : Prop := ((((True ∧ (a.asn != b.asn) = false) ∧ (a.hold != b.hold) = false) ∧ (a.id != b.id) = false) ∧ (nI a.n != nI b.n) = false)
def pR_16 (x : MX) (a b : OV) (i : Nat) : Prop := (((((((((((((((((((((((((((((True ∧ decide (nI i < nI a.n) = true) ∧ (0 ≤ nI i ∧ nI i < nI a.n)) ∧ ((0 + i * 2) % 2 = 0 ∧ (0 + i * 2) / 2 < x.CN a.P)) ∧ (0 ≤ nI i ∧ nI i < nI b.n)) ∧ ((0 + i * 2) % 2 = 0 ∧ (0 + i * 2) / 2 < x.CN b.P)) ∧ (x.CK a.P (ix2 i) != x.CK b.P (ix2 i)) = false) ∧ (x.CK a.P (ix2 i) != x.CK b.P (ix2 i)) = false) ∧ (x.CK a.P (ix2 i) != x.CK b.P (ix2 i)) = false) ∧ (x.CK a.P (ix2 i) != x.CK b.P (ix2 i)) = false) ∧ (0 ≤ nI i ∧ nI i < nI a.n)) ∧ (x.CK a.P (ix2 i) != x.CK b.P (ix2 i)) = false) ∧ (x.CK a.P (ix2 i) != x.CK b.P (ix2 i)) = false) ∧ ((0 + i * 2 + 1) % 2 = 1 ∧ (0 + i * 2 + 1) / 2 < x.CN a.P)) ∧ (x.CK a.P (ix2 i) != x.CK b.P (ix2 i)) = false) ∧ (x.CM a.P (ix3 i) = 0 ∨ 0 + x.CM a.P (ix3 i) ≤ (x.D (x.CQ a.P (ix3 i))).length)) ∧ (x.CK a.P (ix2 i) != x.CK b.P (ix2 i)) = false) ∧ (x.CK a.P (ix2 i) != x.CK b.P (ix2 i)) = false) ∧ (x.CK a.P (ix2 i) != x.CK b.P (ix2 i)) = false) ∧ (x.CK a.P (ix2 i) != x.CK b.P (ix2 i)) = false) ∧ (0 ≤ nI i ∧ nI i < nI b.n)) ∧ (x.CK a.P (ix2 i) != x.CK b.P (ix2 i)) = false) ∧ (x.CK a.P (ix2 i) != x.CK b.P (ix2 i)) = false) ∧ ((0 + i * 2 + 1) % 2 = 1 ∧ (0 + i * 2 + 1) / 2 < x.CN b.P)) ∧ (x.CK a.P (ix2 i) != x.CK b.P (ix2 i)) = false) ∧ (x.CM b.P (ix3 i) = 0 ∨ 0 + x.CM b.P (ix3 i) ≤ (x.D (x.CQ b.P (ix3 i))).length)) ∧ (x.CK a.P (ix2 i) != x.CK b.P (ix2 i)) = false) ∧ (x.CK a.P (ix2 i) != x.CK b.P (ix2 i)) = false) ∧ (!(strE x (x.CQ a.P (ix3 i)) (x.CM a.P (ix3 i)) (x.CQ b.P (ix3 i)) (x.CM b.P (ix3 i)))) = false) ∧ IntKind.i64.wrap (nI i + 1) = nI i + 1)
def pN0_16 (x : MX) (a b : OV) (i : Nat) : Prop := (True ∧ (a.asn != b.asn) = true)
def pN1_16 (x : MX) (a b : OV) (i : Nat) : Prop := ((True ∧ (a.asn != b.asn) = false) ∧ (a.hold != b.hold) = true)
def pN2_16 (x : MX) (a b : OV) (i : Nat) : Prop := (((True ∧ (a.asn != b.asn) = false) ∧ (a.hold != b.hold) = false) ∧ (a.id != b.id) = true)
def pN3_16 (x : MX) (a b : OV) (i : Nat) : Prop := ((((True ∧ (a.asn != b.asn) = false) ∧ (a.hold != b.hold) = false) ∧ (a.id != b.id) = false) ∧ (nI a.n != nI b.n) = true)
def pF0_16 (x : MX) (a b : OV) (i : Nat) : Prop := (((((((((((((((((((((True ∧ decide (nI i < nI a.n) = true) ∧ (0 ≤ nI i ∧ nI i < nI a.n)) ∧ ((0 + i * 2) % 2 = 0 ∧ (0 + i * 2) / 2 < x.CN a.P)) ∧ (0 ≤ nI i ∧ nI i < nI b.n)) ∧ ((0 + i * 2) % 2 = 0 ∧ (0 + i * 2) / 2 < x.CN b.P)) ∧ (x.CK a.P (ix2 i) != x.CK b.P (ix2 i)) = true) ∧ (x.CK a.P (ix2 i) != x.CK b.P (ix2 i)) = true) ∧ (x.CK a.P (ix2 i) != x.CK b.P (ix2 i)) = true) ∧ (x.CK a.P (ix2 i) != x.CK b.P (ix2 i)) = true) ∧ (x.CK a.P (ix2 i) != x.CK b.P (ix2 i)) = true) ∧ (x.CK a.P (ix2 i) != x.CK b.P (ix2 i)) = true) ∧ (x.CK a.P (ix2 i) != x.CK b.P (ix2 i)) = true) ∧ (x.CK a.P (ix2 i) != x.CK b.P (ix2 i)) = true) ∧ (x.CK a.P (ix2 i) != x.CK b.P (ix2 i)) = true) ∧ (x.CK a.P (ix2 i) != x.CK b.P (ix2 i)) = true) ∧ (x.CK a.P (ix2 i) != x.CK b.P (ix2 i)) = true) ∧ (x.CK a.P (ix2 i) != x.CK b.P (ix2 i)) = true) ∧ (x.CK a.P (ix2 i) != x.CK b.P (ix2 i)) = true) ∧ (x.CK a.P (ix2 i) != x.CK b.P (ix2 i)) = true) ∧ (x.CK a.P (ix2 i) != x.CK b.P (ix2 i)) = true) ∧ (x.CK a.P (ix2 i) != x.CK b.P (ix2 i)) = true)
def pF1_16 (x : MX) (a b : OV) (i : Nat) : Prop := ((((((((((((((((((((((((((((True ∧ decide (nI i < nI a.n) = true) ∧ (0 ≤ nI i ∧ nI i < nI a.n)) ∧ ((0 + i * 2) % 2 = 0 ∧ (0 + i * 2) / 2 < x.CN a.P)) ∧ (0 ≤ nI i ∧ nI i < nI b.n)) ∧ ((0 + i * 2) % 2 = 0 ∧ (0 + i * 2) / 2 < x.CN b.P)) ∧ (x.CK a.P (ix2 i) != x.CK b.P (ix2 i)) = false) ∧ (x.CK a.P (ix2 i) != x.CK b.P (ix2 i)) = false) ∧ (x.CK a.P (ix2 i) != x.CK b.P (ix2 i)) = false) ∧ (x.CK a.P (ix2 i) != x.CK b.P (ix2 i)) = false) ∧ (0 ≤ nI i ∧ nI i < nI a.n)) ∧ (x.CK a.P (ix2 i) != x.CK b.P (ix2 i)) = false) ∧ (x.CK a.P (ix2 i) != x.CK b.P (ix2 i)) = false) ∧ ((0 + i * 2 + 1) % 2 = 1 ∧ (0 + i * 2 + 1) / 2 < x.CN a.P)) ∧ (x.CK a.P (ix2 i) != x.CK b.P (ix2 i)) = false) ∧ (x.CM a.P (ix3 i) = 0 ∨ 0 + x.CM a.P (ix3 i) ≤ (x.D (x.CQ a.P (ix3 i))).length)) ∧ (x.CK a.P (ix2 i) != x.CK b.P (ix2 i)) = false) ∧ (x.CK a.P (ix2 i) != x.CK b.P (ix2 i)) = false) ∧ (x.CK a.P (ix2 i) != x.CK b.P (ix2 i)) = false) ∧ (x.CK a.P (ix2 i) != x.CK b.P (ix2 i)) = false) ∧ (0 ≤ nI i ∧ nI i < nI b.n)) ∧ (x.CK a.P (ix2 i) != x.CK b.P (ix2 i)) = false) ∧ (x.CK a.P (ix2 i) != x.CK b.P (ix2 i)) = false) ∧ ((0 + i * 2 + 1) % 2 = 1 ∧ (0 + i * 2 + 1) / 2 < x.CN b.P)) ∧ (x.CK a.P (ix2 i) != x.CK b.P (ix2 i)) = false) ∧ (x.CM b.P (ix3 i) = 0 ∨ 0 + x.CM b.P (ix3 i) ≤ (x.D (x.CQ b.P (ix3 i))).length)) ∧ (x.CK a.P (ix2 i) != x.CK b.P (ix2 i)) = false) ∧ (x.CK a.P (ix2 i) != x.CK b.P (ix2 i)) = false) ∧ (!(strE x (x.CQ a.P (ix3 i)) (x.CM a.P (ix3 i)) (x.CQ b.P (ix3 i)) (x.CM b.P (ix3 i)))) = true)
theorem kD16 (x : MX) (a b : OV) : (gd16 KN (z16 x a b) [some false, none, none, none, none, none, some false, none, none, none, none, none, some false, none, none, none, none, none, none, none, some false]).map (fun r => (r.2, r.1.obl, seenInT BD16 r.1 (s16 x a b 0 (VD16 vU)) [0, 1, 2])) = some (.loop l16, pD_16 x a b 0, seenAsT BD16 (s16 x a b 0 (VD16 vU)) [0, 1, 2] 3) := by kernel_rfl
theorem kN0_16 (x : MX) (a b : OV) : ((mk Try.prog KN 200).call 16 (a16 a b) (smSt 1 [some (.fam x.F)] [some true])).map (fun r => (r.1, r.2.obl)) = some (.bool false, pN0_16 x a b 0) := by kernel_rfl
theorem kN1_16 (x : MX) (a b : OV) : ((mk Try.prog KN 200).call 16 (a16 a b) (smSt 1 [some (.fam x.F)] [some false, none, none, none, none, none, some true])).map (fun r => (r.1, r.2.obl)) = some (.bool false, pN1_16 x a b 0) := by kernel_rfl
theorem kN2_16 (x : MX) (a b : OV) : ((mk Try.prog KN 200).call 16 (a16 a b) (smSt 1 [some (.fam x.F)] [some false, none, none, none, none, none, some false, none, none, none, none, none, some true])).map (fun r => (r.1, r.2.obl)) = some (.bool false, pN2_16 x a b 0) := by kernel_rfl
theorem kN3_16 (x : MX) (a b : OV) : ((mk Try.prog KN 200).call 16 (a16 a b) (smSt 1 [some (.fam x.F)] [some false, none, none, none, none, none, some false, none, none, none, none, none, some false, none, none, none, none, none, none, none, some true])).map (fun r => (r.1, r.2.obl)) = some (.bool false, pN3_16 x a b 0) := by kernel_rfl
theorem kR16 (x : MX) (a b : OV) (i : Nat) (v : VF) : (go16 KN l16 (s16 x a b i v) [some true, some true, some false, some true, some true, some false, some true, some false, some false, some false, some false, some true, some false, some false, some false, none, some true, some false, some false, some false, some false, some false, some true, some false, some false, some false, none, some true, some false, some false, some false, some false, some true]).map (fun r => (r.1, r.2.obl, seenInT BR16 r.2 (s16 x a b (i + 1) (VR16 v)) [0, 1, 2])) = some (.normal, pR_16 x a b i, seenAsT BR16 (s16 x a b (i + 1) (VR16 v)) [0, 1, 2] 3) := by kernel_rfl
theorem kX16 (x : MX) (a b : OV) (i : Nat) (v : VF) : (go16 KN l16 (s16 x a b i v) [some false]).map (fun r => (r.1, r.2.obl, seenInT BX16 r.2 (s16 x a b i (VX16 v)) [0, 1, 2])) = some (.exit 0, True ∧ decide (nI i < nI a.n) = false, seenAsT BX16 (s16 x a b i (VX16 v)) [0, 1, 2] 3) := by kernel_rfl
theorem kF0_16 (x : MX) (a b : OV) (i : Nat) (v : VF) : (go16 KN l16 (s16 x a b i v) [some true, some true, some false, some true, some true, some false, some true, some true, some true, some true, some true, some true, some true, some true, some true, some true, some true, some true, some true, some true, some true, some true, some true]).bind (fun r => (results1 Try.prog r.2 [.tmp 4]).map fun q => (r.1, q.2.obl, r.2.defers, oneOf q.1)) = some (.ret, pF0_16 x a b i, [], .bool false) := by kernel_rfl
theorem kF1_16 (x : MX) (a b : OV) (i : Nat) (v : VF) : (go16 KN l16 (s16 x a b i v) [some true, some true, some false, some true, some true, some false, some true, some false, some false, some false, some false, some true, some false, some false, some false, none, some true, some false, some false, some false, some false, some false, some true, some false, some false, some false, none, some true, some false, some false, some false, some true]).bind (fun r => (results1 Try.prog r.2 [.tmp 4]).map fun q => (r.1, q.2.obl, r.2.defers, oneOf q.1)) = some (.ret, pF1_16 x a b i, [], .bool false) := by kernel_rfl
theorem kE16 (x : MX) (a b : OV) (i : Nat) (v : VF) : (go16 KN e16 (s16 x a b i v) []).bind (fun r => (results1 Try.prog r.2 [.tmp 4]).map fun q => (r.1, q.2.obl, r.2.defers, oneOf q.1)) = some (.ret, True, [], .bool true) := by kernel_rfl
theorem okD16 (x : MX) (a b : OV) (i : Nat) (v : VF) : picOkT BD16 (z16 x a b) (s16 x a b i (VD16 v)) [0, 1, 2] = true := by kernel_rfl
theorem okR16 (x : MX) (a b : OV) (i : Nat) (v : VF) : picOkT BR16 (z16 x a b) (s16 x a b i (VR16 v)) [0, 1, 2] = true := by kernel_rfl
theorem okX16 (x : MX) (a b : OV) (i : Nat) (v : VF) : picOkT BX16 (z16 x a b) (s16 x a b i (VX16 v)) [0, 1, 2] = true := by kernel_rfl
theorem up16 (x : MX) (a b : OV) (Q_ : Exit → St → Prop) : upQ Try.prog none (z16 x a b) [2, 2, 3, 2, 0] b16 Q_ = fun e s => (fun e s => (e = .normal ∧ StepG Try.prog none (z16 x a b) e16 s Q_) ∨ (e ≠ .normal ∧ Q_ e s)) (blockOut 0 e) s := by kernel_rfl
theorem rd16 {x : MX} {a b : OV} (hP : capOk x a.P a.n) (hQ : capOk x b.P b.n) : Rd Try.prog x.F 16 (a16 a b) (.bool (openE x a b)) := by
  obtain ⟨p1, p2, p3⟩ := hP
  obtain ⟨q1, q2, q3⟩ := hQ
  by_cases h1 : (a.asn == b.asn) = true
  rotate_left
  · have h1 : (a.asn == b.asn) = false := Bool.eq_false_iff.2 h1
    rw [show openE x a b = false by unfold openE; simp only [h1, Bool.false_and, Bool.true_and, Bool.and_false]]
    exact Rd.run pg KN_ok (kN0_16 x a b) ⟨trivial, bne_t h1⟩ rfl
  by_cases h2 : (a.hold == b.hold) = true
  rotate_left
  · have h2 : (a.hold == b.hold) = false := Bool.eq_false_iff.2 h2
    rw [show openE x a b = false by unfold openE; simp only [h1, h2, Bool.false_and, Bool.true_and, Bool.and_false]]
    exact Rd.run pg KN_ok (kN1_16 x a b) ⟨⟨trivial, bne_f h1⟩, bne_t h2⟩ rfl
  by_cases h3 : (a.id == b.id) = true
  rotate_left
  · have h3 : (a.id == b.id) = false := Bool.eq_false_iff.2 h3
    rw [show openE x a b = false by unfold openE; simp only [h1, h2, h3, Bool.false_and, Bool.true_and, Bool.and_false]]
    exact Rd.run pg KN_ok (kN2_16 x a b) ⟨⟨⟨trivial, bne_f h1⟩, bne_f h2⟩, bne_t h3⟩ rfl
  by_cases h4 : (Nat.beq a.n b.n) = true
  rotate_left
  · have h4 : (Nat.beq a.n b.n) = false := Bool.eq_false_iff.2 h4
    rw [show openE x a b = false by unfold openE capsE; simp only [h1, h2, h3, h4, Bool.false_and, Bool.true_and]]
    exact Rd.run pg KN_ok (kN3_16 x a b) ⟨⟨⟨⟨trivial, bne_f h1⟩, bne_f h2⟩, bne_f h3⟩, bne_t (by cases e : (nI a.n == nI b.n) with | false => rfl | true => exact absurd (show Nat.beq a.n b.n = true by rw [show a.n = b.n by have := eq_of_beq e; unfold nI at this; omega]; exact beq_self _) (by rw [h4]; decide))⟩ rfl
  rw [show openE x a b = allB (capE x a.P b.P) a.n by unfold openE capsE; simp only [h1, h2, h3, h4, Bool.true_and]]
  have hnm := Nat.eq_of_beq_eq_true h4
  refine cmp_rd (way := [2, 2, 3, 2, 0]) (pic := fun i v => s16 x a b i v) (e := capE x a.P b.P) (N := a.n) (v0 := VD16 vU) (s0 := z16 x a b) rfl fn16 (fun Q_ h => StepG.downs pg KN_ok (kD16 x a b) ⟨⟨⟨⟨trivial, bne_f h1⟩, bne_f h2⟩, bne_f h3⟩, by rw [Nat.eq_of_beq_eq_true h4]; simp⟩ (tm16_dead (VD16_dead vU_dead) lvD16) (h16_ok x a b) rfl (okD16 x a b 0 vU) h) (up16 x a b) (fun i v hv hi he => ?_) (fun i v hv hi he => ?_) (fun v hv => ?_) (fun v hv => ?_) (VD16_dead vU_dead)
  · refine (StepG.stdT (s0 := z16 x a b) (rd := none) pg KN_ok (kR16 x a b i v) ?_ (show 1 ≤ 3 by decide) (tm16_dead (VR16_dead hv) lvR16) (h16_ok x a b) rfl (okR16 x a b (i + 1) v)).mono ?_
    · unfold capE at he
      rw [Bool.and_eq_true] at he
      obtain ⟨k1, k2⟩ := he
      have k1 := bne_f k1
      rw [ix2_eq] at k2
      have s1 : x.CM a.P (ix3 i) = 0 ∨ 0 + x.CM a.P (ix3 i) ≤ (x.D (x.CQ a.P (ix3 i))).length := by rw [ix3_eq]; have := (p3 i hi).1; omega
      have s2 : x.CM b.P (ix3 i) = 0 ∨ 0 + x.CM b.P (ix3 i) ≤ (x.D (x.CQ b.P (ix3 i))).length := by rw [ix3_eq]; have := (q3 i (by omega)).1; omega
      exact ⟨⟨⟨⟨⟨⟨⟨⟨⟨⟨⟨⟨⟨⟨⟨⟨⟨⟨⟨⟨⟨⟨⟨⟨⟨⟨⟨⟨⟨trivial, decide_eq_true (by unfold nI; omega)⟩, by unfold nI; omega⟩, ⟨by omega, by omega⟩⟩, by unfold nI; omega⟩, ⟨by omega, by omega⟩⟩, k1⟩, k1⟩, k1⟩, k1⟩, by unfold nI; omega⟩, k1⟩, k1⟩, ⟨by omega, by omega⟩⟩, k1⟩, s1⟩, k1⟩, k1⟩, k1⟩, k1⟩, by unfold nI; omega⟩, k1⟩, k1⟩, ⟨by omega, by omega⟩⟩, k1⟩, s2⟩, k1⟩, k1⟩, by rw [ix3_eq, k2]; rfl⟩, by rw [IntKind.wrap_i64]; unfold nI; omega⟩
    · rintro ex s_ ⟨rfl, rfl⟩
      exact ⟨rfl, _, VR16_dead hv, rfl⟩
  · unfold capE at he
    by_cases k1 : (x.CK a.P (ix2 i) == x.CK b.P (ix2 i)) = true
    · rw [k1, Bool.true_and, ix2_eq] at he
      have k1 := bne_f k1
      have s1 : x.CM a.P (ix3 i) = 0 ∨ 0 + x.CM a.P (ix3 i) ≤ (x.D (x.CQ a.P (ix3 i))).length := by rw [ix3_eq]; have := (p3 i hi).1; omega
      have s2 : x.CM b.P (ix3 i) = 0 ∨ 0 + x.CM b.P (ix3 i) ≤ (x.D (x.CQ b.P (ix3 i))).length := by rw [ix3_eq]; have := (q3 i (by omega)).1; omega
      exact StepG.ranV (s0 := z16 x a b) (rd := none) pg KN_ok (kF1_16 x a b i v) ⟨⟨⟨⟨⟨⟨⟨⟨⟨⟨⟨⟨⟨⟨⟨⟨⟨⟨⟨⟨⟨⟨⟨⟨⟨⟨⟨⟨trivial, decide_eq_true (by unfold nI; omega)⟩, by unfold nI; omega⟩, ⟨by omega, by omega⟩⟩, by unfold nI; omega⟩, ⟨by omega, by omega⟩⟩, k1⟩, k1⟩, k1⟩, k1⟩, by unfold nI; omega⟩, k1⟩, k1⟩, ⟨by omega, by omega⟩⟩, k1⟩, s1⟩, k1⟩, k1⟩, k1⟩, k1⟩, by unfold nI; omega⟩, k1⟩, k1⟩, ⟨by omega, by omega⟩⟩, k1⟩, s2⟩, k1⟩, k1⟩, by rw [ix3_eq, he]; rfl⟩ (show 1 ≤ 3 by decide)
    · have k1 : (x.CK a.P (ix2 i) == x.CK b.P (ix2 i)) = false := by simpa using k1
      have k1 := bne_t k1
      exact StepG.ranV (s0 := z16 x a b) (rd := none) pg KN_ok (kF0_16 x a b i v) ⟨⟨⟨⟨⟨⟨⟨⟨⟨⟨⟨⟨⟨⟨⟨⟨⟨⟨⟨⟨⟨trivial, decide_eq_true (by unfold nI; omega)⟩, by unfold nI; omega⟩, ⟨by omega, by omega⟩⟩, by unfold nI; omega⟩, ⟨by omega, by omega⟩⟩, k1⟩, k1⟩, k1⟩, k1⟩, k1⟩, k1⟩, k1⟩, k1⟩, k1⟩, k1⟩, k1⟩, k1⟩, k1⟩, k1⟩, k1⟩, k1⟩ (show 1 ≤ 3 by decide)
  · refine (StepG.stdT (s0 := z16 x a b) (rd := none) pg KN_ok (kX16 x a b a.n v) ⟨trivial, decide_eq_false (by omega)⟩ (show 1 ≤ 3 by decide) (tm16_dead (VX16_dead hv) lvX16) (h16_ok x a b) rfl (okX16 x a b a.n v)).mono ?_
    rintro ex s_ ⟨rfl, rfl⟩
    exact ⟨rfl, _, VX16_dead hv, rfl⟩
  · exact StepG.ranV pg KN_ok (kE16 x a b a.n v) trivial (show 1 ≤ 3 by decide)
end
end ob
end Go.Proofs.Ytpfmilkddapfiaa
namespace Go.Proofs.Ytpfmilkddapfiaa
open Go.ChangeShapes Go.WideShapes Go.ChangeAt Go.RowKit Go.Cln
namespace ob
set_option linter.unusedVariables false
noncomputable section
noncomputable def fewCapE (x : MX) (P i : Nat) : Bool := !(decide (nI (x.CM P (ix3 i)) > 200))
noncomputable def fewE (x : MX) (a : OV) : Bool := allB (fewCapE x a.P) a.n && decide (nI a.n ≤ 30)
def b9 : Code := ((Try.prog.funcs[9]?).bind (·.body)).getD .skip
def l9 : Code := loopB Try.prog 9 0
def e9 : Code := dropC 2 b9
theorem fn9 : (Try.prog.funcs[9]?).map (fun f => (f.body, f.results.toList, f.ntmps)) = some (some b9, [.tmp 2], 23) := by kernel_rfl
noncomputable abbrev a9 (a : OV) : List Value := [a.v]
noncomputable def z9 (x : MX) (a : OV) : St := { smSt 1 [some (.fam x.F)] [] with tmps := a9 a ++ List.replicate (23 - (a9 a).length) undef, defers := [] }
noncomputable def tm9 (v : VF) (a : OV) (i : Nat) : List Value := (a.v :: .pointer (some ⟨1, 0, none⟩) :: v 2 :: .int .i64 (nI i) :: vs v 4 19 [])
theorem tm9_dead {v : VF} {a : OV} {i : Nat} {B : Nat → Bool} (h : ∀ i, DeadV (v i)) (hB : ∀ i, ((Nat.ble 0 i && Nat.ble i 1) || Nat.beq i 3) = true → B i = true) : deadT B 0 (tm9 v a i) :=
  dl (hB 0 rfl) (dl (hB 1 rfl) (dn (h 2) (dl (hB 3 rfl) (deadT_vs h 19 (trivial)))))
noncomputable def h9 (x : MX) (a : OV) : Nat → Option Ob := fun i => match i with
  | 0 => some (.fam x.F)
  | 1 => some (.cells (.lit a.l) 26)
  | _ => none
theorem h9_ok (x : MX) (a : OV) : Go.Cln.RowsIn (h9 x a) := by
  intro b n' w' g' t h
  unfold h9 at h
  split at h <;> first | (cases h; done) | cases h
noncomputable def s9 (x : MX) (a : OV) (i : Nat) (v : VF) : St := ⟨tm9 v a i, [], Tr.rebuild (h9 x a) 2, 2, 1, [], fun _ => false, True, []⟩
noncomputable def go9 (K : Given) (c : Code) (s : St) (o : List (Option Bool)) : Option (Exit × St) := (mk Try.prog K 200).code 9 none c { s with obl := True, orc := o }
noncomputable def gd9 (K : Given) (s : St) (o : List (Option Bool)) : Option (St × Code) := down (mk Try.prog K 200) 9 none [2, 3, 2, 0] b9 { s with obl := True, orc := o }
def WD9 (i : Nat) : Bool := Nat.beq i 2
noncomputable def VD9 (v : VF) : VF := fun i => match WD9 i with
  | true => junk
  | false => v i
def BD9 (i : Nat) : Bool := ((Nat.ble 0 i && Nat.ble i 1) || Nat.beq i 3) || WD9 i
theorem VD9_dead {v : VF} (h : ∀ i, DeadV (v i)) (i : Nat) : DeadV (VD9 v i) := jD (W := WD9) h i
theorem lvD9 (i : Nat) (h : ((Nat.ble 0 i && Nat.ble i 1) || Nat.beq i 3) = true) : BD9 i = true := jl h
def WR9 (i : Nat) : Bool := (Nat.ble 4 i && Nat.ble i 18)
noncomputable def VR9 (v : VF) : VF := fun i => match WR9 i with
  | true => junk
  | false => v i
def BR9 (i : Nat) : Bool := ((Nat.ble 0 i && Nat.ble i 1) || Nat.beq i 3) || WR9 i
theorem VR9_dead {v : VF} (h : ∀ i, DeadV (v i)) (i : Nat) : DeadV (VR9 v i) := jD (W := WR9) h i
theorem lvR9 (i : Nat) (h : ((Nat.ble 0 i && Nat.ble i 1) || Nat.beq i 3) = true) : BR9 i = true := jl h
def WX9 (i : Nat) : Bool := (Nat.ble 4 i && Nat.ble i 8)
noncomputable def VX9 (v : VF) : VF := fun i => match WX9 i with
  | true => junk
  | false => v i
def BX9 (i : Nat) : Bool := ((Nat.ble 0 i && Nat.ble i 1) || Nat.beq i 3) || WX9 i
theorem VX9_dead {v : VF} (h : ∀ i, DeadV (v i)) (i : Nat) : DeadV (VX9 v i) := jD (W := WX9) h i
theorem lvX9 (i : Nat) (h : ((Nat.ble 0 i && Nat.ble i 1) || Nat.beq i 3) = true) : BX9 i = true := jl h
def pD_9 (x : MX) (a : OV) (i : Nat) : Prop := True
def pR_9 (x : MX) (a : OV) (i : Nat) : Prop := (((((True ∧ decide (nI i < nI a.n) = true) ∧ 0 ≤ nI i ∧ nI i < nI a.n) ∧ (0 + i * 2 + 1) % 2 = 1 ∧ (0 + i * 2 + 1) / 2 < x.CN a.P) ∧ decide (nI (x.CM a.P (ix3 i)) > 200) = false) ∧ IntKind.i64.wrap (nI i + 1) = nI i + 1)
def pX_9 (x : MX) (a : OV) (i : Nat) : Prop := (True ∧ decide (nI i < nI a.n) = false)
def pF0_9 (x : MX) (a : OV) (i : Nat) : Prop := ((((True ∧ decide (nI i < nI a.n) = true) ∧ 0 ≤ nI i ∧ nI i < nI a.n) ∧ (0 + i * 2 + 1) % 2 = 1 ∧ (0 + i * 2 + 1) / 2 < x.CN a.P) ∧ decide (nI (x.CM a.P (ix3 i)) > 200) = true)
def pE0_9 (x : MX) (a : OV) (i : Nat) : Prop := True
theorem kD9 (x : MX) (a : OV) : (gd9 KN (z9 x a) []).map (fun r => (r.2, r.1.obl, seenInT BD9 r.1 (s9 x a 0 (VD9 vU)) [0, 1])) = some (.loop l9, pD_9 x a 0, seenAsT BD9 (s9 x a 0 (VD9 vU)) [0, 1] 2) := by kernel_rfl
theorem kR9 (x : MX) (a : OV) (i : Nat) (v : VF) : (go9 KN l9 (s9 x a i v) [some true, some true, some false, none, some true, some false, some true]).map (fun r => (r.1, r.2.obl, seenInT BR9 r.2 (s9 x a (i + 1) (VR9 v)) [0, 1])) = some (.normal, pR_9 x a i, seenAsT BR9 (s9 x a (i + 1) (VR9 v)) [0, 1] 2) := by kernel_rfl
theorem kX9 (x : MX) (a : OV) (i : Nat) (v : VF) : (go9 KN l9 (s9 x a i v) [some false]).map (fun r => (r.1, r.2.obl, seenInT BX9 r.2 (s9 x a i (VX9 v)) [0, 1])) = some (.exit 0, pX_9 x a i, seenAsT BX9 (s9 x a i (VX9 v)) [0, 1] 2) := by kernel_rfl
theorem kF0_9 (x : MX) (a : OV) (i : Nat) (v : VF) : (go9 KN l9 (s9 x a i v) [some true, some true, some false, none, some true, some true]).bind (fun r => (results1 Try.prog r.2 [.tmp 2]).map fun q => (r.1, q.2.obl, r.2.defers, oneOf q.1)) = some (.ret, pF0_9 x a i, [], .bool false) := by kernel_rfl
theorem kE0_9 (x : MX) (a : OV) (i : Nat) (v : VF) : (go9 KN e9 (s9 x a i v) []).bind (fun r => (results1 Try.prog r.2 [.tmp 2]).map fun q => (r.1, q.2.obl, r.2.defers, oneOf q.1)) = some (.ret, pE0_9 x a i, [], .bool (decide (nI a.n ≤ 30))) := by kernel_rfl
theorem okD9 (x : MX) (a : OV) (i : Nat) (v : VF) : picOkT BD9 (z9 x a) (s9 x a i (VD9 v)) [0, 1] = true := by kernel_rfl
theorem okR9 (x : MX) (a : OV) (i : Nat) (v : VF) : picOkT BR9 (z9 x a) (s9 x a i (VR9 v)) [0, 1] = true := by kernel_rfl
theorem okX9 (x : MX) (a : OV) (i : Nat) (v : VF) : picOkT BX9 (z9 x a) (s9 x a i (VX9 v)) [0, 1] = true := by kernel_rfl
theorem up9 (x : MX) (a : OV) (Q_ : Exit → St → Prop) : upQ Try.prog none (z9 x a) [2, 3, 2, 0] b9 Q_ = fun e s => (fun e s => (e = .normal ∧ StepG Try.prog none (z9 x a) e9 s Q_) ∨ (e ≠ .normal ∧ Q_ e s)) (blockOut 0 e) s := by kernel_rfl
theorem rd9 {x : MX} {a : OV} (hA : a.n ≤ x.CN a.P ∧ a.n ≤ 9223372036854775807) : Rd Try.prog x.F 9 (a9 a) (.bool (fewE x a)) := by
  obtain ⟨p1, p2⟩ := hA
  refine find_rd (way := [2, 3, 2, 0]) (pic := fun i v => s9 x a i v) (e := fewCapE x a.P) (N := a.n) (v0 := VD9 vU) (s0 := z9 x a) rfl fn9 rfl (fun Q_ h => StepG.downs pg KN_ok (kD9 x a) (trivial) (tm9_dead (VD9_dead vU_dead) lvD9) (h9_ok x a) rfl (okD9 x a 0 vU) h) (up9 x a) (fun i v hv hi he => ?_) (fun i v hv hi hp he => ?_) (fun v hv => ?_) (fun hall v hv => ?_) (VD9_dead vU_dead)
  · refine (StepG.stdT (s0 := z9 x a) (rd := none) pg KN_ok (kR9 x a i v) ?_ (show 1 ≤ 2 by decide) (tm9_dead (VR9_dead hv) lvR9) (h9_ok x a) rfl (okR9 x a (i + 1) v)).mono ?_
    · exact ⟨⟨⟨⟨⟨trivial, decide_eq_true (by unfold nI; omega)⟩, by unfold nI; omega⟩, by omega⟩, by unfold fewCapE at he; simpa using he⟩, by rw [IntKind.wrap_i64]; unfold nI; omega⟩
    · rintro ex s_ ⟨rfl, rfl⟩
      exact ⟨rfl, _, VR9_dead hv, rfl⟩
  · rw [show fewE x a = false by unfold fewE; rw [allB_no he hi]; rfl]
    exact StepG.ranV (s0 := z9 x a) (rd := none) pg KN_ok (kF0_9 x a i v) ⟨⟨⟨⟨trivial, decide_eq_true (by unfold nI; omega)⟩, by unfold nI; omega⟩, by omega⟩, by unfold fewCapE at he; simpa using he⟩ (show 1 ≤ 2 by decide)
  · refine (StepG.stdT (s0 := z9 x a) (rd := none) pg KN_ok (kX9 x a a.n v) ⟨trivial, decide_eq_false (by unfold nI; omega)⟩ (show 1 ≤ 2 by decide) (tm9_dead (VX9_dead hv) lvX9) (h9_ok x a) rfl (okX9 x a a.n v)).mono ?_
    rintro ex s_ ⟨rfl, rfl⟩
    exact ⟨rfl, _, VX9_dead hv, rfl⟩
  · rw [show fewE x a = decide (nI a.n ≤ 30) by unfold fewE; rw [allB_all hall, Bool.true_and]]
    exact StepG.ranV (s0 := z9 x a) (rd := none) pg KN_ok (kE0_9 x a a.n v) trivial (show 1 ≤ 2 by decide)
noncomputable def rw46 (x : MX) (args : List Value) : Option (Value × Prop) := match args with
  | [.slice (some ⟨P, 0, some 1003⟩) n c, .slice (some ⟨Q, 0, some 1003⟩) m d, .func (.func 44) ⟨[]⟩ ⟨[]⟩] => some (.bool (capsE x P n Q m), capOk x P n ∧ capOk x Q m)
  | _ => none
theorem rw46_ok (x : MX) {args : List Value} {r : Value × Prop} (h : rw46 x args = some r) : flat r.1 = true ∧ args.all farV = true ∧ (r.2 → Rd Try.prog x.F 46 args r.1) := by
  unfold rw46 at h
  split at h
  · rename_i P n c Q m d
    cases h
    exact ⟨rfl, rfl, fun hp => rd46 hp.1 hp.2⟩
  · cases h
noncomputable def T3 (x : MX) (f : FuncId) (args : List Value) : Option (Value × Prop) := if f == 46 then rw46 x args else T2 x f args
theorem T3_ok (x : MX) (f : FuncId) (args : List Value) (r : Value × Prop) (h : T3 x f args = some r) : flat r.1 = true ∧ args.all farV = true ∧ (r.2 → Rd Try.prog x.F f args r.1) := by
  unfold T3 at h
  by_cases e46 : (f == 46) = true
  · have hf : f = 46 := by simpa using e46
    subst hf
    exact rw46_ok x h
  rw [if_neg e46] at h
  exact T2_ok x f args r h
noncomputable def K3 (x : MX) : Given := { Given.rds Given.nothing x.F (T3 x) with fits := true }
theorem K3_ok (x : MX) : GivenOk Try.prog (K3 x) := frames_fits ((GivenOk.nothing _).rds (T3_ok x)) true
end
end ob
end Go.Proofs.Ytpfmilkddapfiaa
namespace Go.Proofs.Ytpfmilkddapfiaa
open Go.ChangeShapes Go.WideShapes Go.ChangeAt Go.RowKit Go.Cln
namespace ob
set_option linter.unusedVariables false
noncomputable section
def B24 (x : MX) (a b : OV) : Nat → Bool := fun i => match i with
  | 0 => a.asn == b.asn
  | 1 => a.hold == b.hold
  | 2 => a.id == b.id
  | _ => capsE x a.P a.n b.P b.n
def A24 (x : MX) (a b : OV) : Nat → Prop := fun _ => x.F = x.F ∧ capOk x a.P a.n ∧ capOk x b.P b.n
def e24B : BE := .an (.a 0) (.an (.a 1) (.an (.a 2) (.a 3)))
def D24 : DT := .node 0 (.node 1 (.node 2 (.node 3 (.leaf 0) (.leaf 0)) (.leaf 3)) (.leaf 2)) (.leaf 1)
def L24 : List WayT := [⟨19, 532171, [(0, 1), (1, 1), (2, 1), (0, 2)], .a 3⟩, ⟨19, 2, [(0, 0)], .lit false⟩, ⟨19, 1459, [(0, 1), (1, 0)], .lit false⟩, ⟨19, 1063612, [(0, 1), (1, 1), (2, 0)], .lit false⟩]
theorem ws24 (x : MX) (a b : OV) : WaysOk Try.prog (K3 x) x.F 24 [a.v, b.v] (B24 x a b) (A24 x a b) L24 := by
  unfold L24
  refine ⟨?_, ⟨?_, ⟨?_, ⟨?_, trivial⟩⟩⟩⟩
  all_goals unfold WayOk; kernel_rfl
theorem rd24 {x : MX} {a b : OV} (hP : capOk x a.P a.n) (hQ : capOk x b.P b.n) : Rd Try.prog x.F 24 [a.v, b.v] (.bool (openE x a b)) := by
  rw [show openE x a b = e24B.ev (B24 x a b) from rfl]
  exact Rd.tree pg (K3_ok x) (ws24 x a b) (fun _ => ⟨rfl, hP, hQ⟩) D24 (by decide +kernel)
end
end ob
end Go.Proofs.Ytpfmilkddapfiaa
