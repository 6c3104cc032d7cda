/- Read off the code by the clean reading. -/
import Derived.Test.YtpfmilkddapfiaaClnQd
import Derived.Test.YtpfmilkddapfiaaClnQc
import Derived.Test.YtpfmilkddapfiaaRows
import Derived.WalkKit
import Derived.ProofKit
import Derived.Below
import Derived.IntWalk
set_option linter.unusedVariables false
set_option linter.unusedSimpArgs false
set_option linter.deprecated false
set_option maxRecDepth 100000
namespace Go.Proofs.Ytpfmilkddapfiaa
open Go.ChangeShapes Go.WideShapes Go.ChangeAt Go.RowKit Go.Cln
namespace ob
set_option linter.unusedVariables false
theorem pg : PG Try.prog := PG.of (by decide +kernel)
theorem worksRuns : ((mk Try.prog Given.nothing 300).call 10 [] (St.start 0 .leaf [])).map (fun r => (r.1, r.2.obl)) = some (.bool true, True) := by kernel_rfl
theorem works (W : World) : Calls Try.prog 10 #[] W fun e w' => e = .returned (.bool true) ∧ Below W.heap.size W w' := ran pg (GivenOk.nothing _) worksRuns trivial rfl rfl W
noncomputable section
def rp (v : Value) : Nat → List Value → List Value
  | 0, l => l
  | n + 1, l => v :: rp v n l
def vs (v : Nat → Value) (b : Nat) : Nat → List Value → List Value
  | 0, l => l
  | k + 1, l => vs v b k (v (b + k) :: l)
theorem deadT_vs {B : Nat → Bool} {v : Nat → Value} (h : ∀ i, DeadV (v i)) : ∀ (n : Nat) {a b : Nat} {l : List Value}, deadT B (a + n) l → deadT B a (vs v b n l)
  | 0, _, _, _, g => g
  | n + 1, a, b, l, g => deadT_vs h n (a := a) (b := b) (l := v (b + n) :: l) ⟨fun _ => h _, g⟩
theorem dl {B : Nat → Bool} {i : Nat} {v : Value} {l : List Value} (h : B i = true) (t : deadT B (i + 1) l) : deadT B i (v :: l) := ⟨fun e => absurd e (by rw [h]; decide), t⟩
theorem dn {B : Nat → Bool} {i : Nat} {v : Value} {l : List Value} (h : DeadV v) (t : deadT B (i + 1) l) : deadT B i (v :: l) := ⟨fun _ => h, t⟩
theorem jl {a b : Bool} (h : a = true) : (a || b) = true := by rw [h]; rfl
theorem jD {W : Nat → Bool} {v : Nat → Value} (h : ∀ i, DeadV (v i)) (i : Nat) : DeadV (match W i with | true => junk | false => v i) := by
  split
  · exact DeadV.junk
  · exact h i
abbrev VF := Nat → Value
def vU : VF := fun _ => undef
theorem vU_dead (i : Nat) : DeadV (vU i) := DeadV.undef
def dropC : Nat → Code → Code
  | 0, c => c
  | k + 1, .seq x y => dropC k y
  | _ + 1, c => c
structure MX where
  D : Nat → List Int
  CN : Nat → Nat
  CK : Nat → Nat → Int
  CQ : Nat → Nat → Nat
  CM : Nat → Nat → Nat
  CC : Nat → Nat → Nat
abbrev PB_ (P n c : Nat) : Value := .slice (some ⟨P, 0, some 1000⟩) n c
abbrev PC (P n c : Nat) : Value := .slice (some ⟨P, 0, some 1003⟩) n c
def MX.cap (x : MX) (P i : Nat) : List Value := [.int .u8 (x.CK P i), PB_ (x.CQ P i) (x.CM P i) (x.CC P i)]
def MX.F (x : MX) (g P : Nat) : Cells := match Nat.beq g 1000 with
  | true => .ints .u8 (x.D P)
  | false => .rows (x.CN P) 2 (x.cap P)
def strE (x : MX) (P n Q m : Nat) : Bool := beqB (bytesI (((x.D P).drop 0).take n)).toList (bytesI (((x.D Q).drop 0).take m)).toList
def ix2 (i : Nat) : Nat := (0 + i * 2) / 2
theorem ix2_eq (i : Nat) : ix2 i = i := by unfold ix2; omega
def ix3 (i : Nat) : Nat := (0 + i * 2 + 1) / 2
theorem ix3_eq (i : Nat) : ix3 i = i := by unfold ix3; omega
def capE (x : MX) (P Q i : Nat) : Bool := (x.CK P (ix2 i) == x.CK Q (ix2 i)) && strE x (x.CQ P (ix2 i)) (x.CM P (ix2 i)) (x.CQ Q (ix2 i)) (x.CM Q (ix2 i))
def capsE (x : MX) (P n Q m : Nat) : Bool := Nat.beq n m && allB (capE x P Q) n
def bytOk (x : MX) (P n : Nat) : Prop := n ≤ (x.D P).length ∧ n ≤ 1000
def capOk (x : MX) (P n : Nat) : Prop := n ≤ x.CN P ∧ n ≤ 1000 ∧ ∀ i, i < n → bytOk x (x.CQ P i) (x.CM P i)
structure OV where
  asn : Int
  hold : Int
  id : Int
  P : Nat
  n : Nat
  c : Nat
def OV.l (a : OV) : List Value := [.int .u32 a.asn, .int .u16 a.hold, .int .u32 a.id, PC a.P a.n a.c]
def OV.v (a : OV) : Value := .agg a.l.toArray
def openE (x : MX) (a b : OV) : Bool := (a.asn == b.asn) && ((a.hold == b.hold) && ((a.id == b.id) && capsE x a.P a.n b.P b.n))
def cv (k : Int) (P n c : Nat) : Value := .agg #[.int .u8 k, PB_ P n c]
theorem agg_eq {a : Array Value} {l : List Value} (h : a.toList = l) : a = l.toArray := by rw [← h]
def ovOf (a : Array Value) : Option OV := match a.toList with
  | [.int .u32 s, .int .u16 h, .int .u32 i, .slice (some ⟨P, 0, some 1003⟩) n c] => some ⟨s, h, i, P, n, c⟩
  | _ => none
theorem ovOf_eq {a : Array Value} {v : OV} (h : ovOf a = some v) : a = v.l.toArray := by
  unfold ovOf at h
  split at h
  · rename_i e; cases h; exact agg_eq e
  · cases h
def KN : Given := { Given.nothing with fits := true }
theorem KN_ok : GivenOk Try.prog KN := frames_fits (GivenOk.nothing _) true
end
end ob
end Go.Proofs.Ytpfmilkddapfiaa
namespace Go.Proofs.Ytpfmilkddapfiaa
open Go.ChangeShapes Go.WideShapes Go.ChangeAt Go.RowKit Go.Cln
namespace ob
set_option linter.unusedVariables false
noncomputable section
def cvOf (a : Array Value) : Option (Int × Nat × Nat × Nat) := match a.toList with
  | [.int .u8 k, .slice (some ⟨P, 0, some 1000⟩) n c] => some (k, P, n, c)
  | _ => none
theorem cvOf_eq {a : Array Value} {u : Int × Nat × Nat × Nat} (h : cvOf a = some u) : Value.agg a = cv u.1 u.2.1 u.2.2.1 u.2.2.2 := by
  unfold cvOf at h
  split at h
  · rename_i e
    cases h
    exact congrArg Value.agg (by rw [← Array.toList_inj, e] <;> rfl)
  · cases h
theorem ovOf_v {a : Array Value} {u : OV} (h : ovOf a = some u) : Value.agg a = u.v := congrArg Value.agg (ovOf_eq h)
end
end ob
end Go.Proofs.Ytpfmilkddapfiaa
namespace Go.Proofs.Ytpfmilkddapfiaa
open Go.ChangeShapes Go.WideShapes Go.ChangeAt Go.RowKit Go.Cln
namespace ob
set_option linter.unusedVariables false
noncomputable section
end
end ob
end Go.Proofs.Ytpfmilkddapfiaa
namespace Go.Proofs.Ytpfmilkddapfiaa
open Go.ChangeShapes Go.WideShapes Go.ChangeAt Go.RowKit Go.Cln
namespace ob
set_option linter.unusedVariables false
noncomputable section
end
end ob
end Go.Proofs.Ytpfmilkddapfiaa
namespace Go.Proofs.Ytpfmilkddapfiaa
open Go.ChangeShapes Go.WideShapes Go.ChangeAt Go.RowKit Go.Cln
namespace ob
set_option linter.unusedVariables false
noncomputable section
noncomputable def fewCapE (x : MX) (P i : Nat) : Bool := !(decide (nI (x.CM P (ix3 i)) > 200))
noncomputable def fewE (x : MX) (a : OV) : Bool := allB (fewCapE x a.P) a.n && decide (nI a.n ≤ 30)
def b9 : Code := ((Try.prog.funcs[9]?).bind (·.body)).getD .skip
def l9 : Code := loopB Try.prog 9 0
def e9 : Code := dropC 2 b9
theorem fn9 : (Try.prog.funcs[9]?).map (fun f => (f.body, f.results.toList, f.ntmps)) = some (some b9, [.tmp 2], 23) := by kernel_rfl
noncomputable abbrev a9 (a : OV) : List Value := [a.v]
noncomputable def z9 (x : MX) (a : OV) : St := { smSt 1 [some (.fam x.F)] [] with tmps := a9 a ++ List.replicate (23 - (a9 a).length) undef, defers := [] }
noncomputable def tm9 (v : VF) (a : OV) (i : Nat) : List Value := (a.v :: .pointer (some ⟨1, 0, none⟩) :: v 2 :: .int .i64 (nI i) :: vs v 4 19 [])
theorem tm9_dead {v : VF} {a : OV} {i : Nat} {B : Nat → Bool} (h : ∀ i, DeadV (v i)) (hB : ∀ i, ((Nat.ble 0 i && Nat.ble i 1) || Nat.beq i 3) = true → B i = true) : deadT B 0 (tm9 v a i) :=
  dl (hB 0 rfl) (dl (hB 1 rfl) (dn (h 2) (dl (hB 3 rfl) (deadT_vs h 19 (trivial)))))
noncomputable def h9 (x : MX) (a : OV) : Nat → Option Ob := fun i => match i with
  | 0 => some (.fam x.F)
  | 1 => some (.cells (.lit a.l) 26)
  | _ => none
theorem h9_ok (x : MX) (a : OV) : Go.Cln.RowsIn (h9 x a) := by
  intro b n' w' g' t h
  unfold h9 at h
  split at h <;> first | (cases h; done) | cases h
noncomputable def s9 (x : MX) (a : OV) (i : Nat) (v : VF) : St := ⟨tm9 v a i, [], Tr.rebuild (h9 x a) 2, 2, 1, [], fun _ => false, True, []⟩
noncomputable def go9 (K : Given) (c : Code) (s : St) (o : List (Option Bool)) : Option (Exit × St) := (mk Try.prog K 200).code 9 none c { s with obl := True, orc := o }
noncomputable def gd9 (K : Given) (s : St) (o : List (Option Bool)) : Option (St × Code) := down (mk Try.prog K 200) 9 none [2, 3, 2, 0] b9 { s with obl := True, orc := o }
def WD9 (i : Nat) : Bool := Nat.beq i 2
noncomputable def VD9 (v : VF) : VF := fun i => match WD9 i with
  | true => junk
  | false => v i
def BD9 (i : Nat) : Bool := ((Nat.ble 0 i && Nat.ble i 1) || Nat.beq i 3) || WD9 i
theorem VD9_dead {v : VF} (h : ∀ i, DeadV (v i)) (i : Nat) : DeadV (VD9 v i) := jD (W := WD9) h i
theorem lvD9 (i : Nat) (h : ((Nat.ble 0 i && Nat.ble i 1) || Nat.beq i 3) = true) : BD9 i = true := jl h
def WR9 (i : Nat) : Bool := (Nat.ble 4 i && Nat.ble i 18)
noncomputable def VR9 (v : VF) : VF := fun i => match WR9 i with
  | true => junk
  | false => v i
def BR9 (i : Nat) : Bool := ((Nat.ble 0 i && Nat.ble i 1) || Nat.beq i 3) || WR9 i
theorem VR9_dead {v : VF} (h : ∀ i, DeadV (v i)) (i : Nat) : DeadV (VR9 v i) := jD (W := WR9) h i
theorem lvR9 (i : Nat) (h : ((Nat.ble 0 i && Nat.ble i 1) || Nat.beq i 3) = true) : BR9 i = true := jl h
def WX9 (i : Nat) : Bool := (Nat.ble 4 i && Nat.ble i 8)
noncomputable def VX9 (v : VF) : VF := fun i => match WX9 i with
  | true => junk
  | false => v i
def BX9 (i : Nat) : Bool := ((Nat.ble 0 i && Nat.ble i 1) || Nat.beq i 3) || WX9 i
theorem VX9_dead {v : VF} (h : ∀ i, DeadV (v i)) (i : Nat) : DeadV (VX9 v i) := jD (W := WX9) h i
theorem lvX9 (i : Nat) (h : ((Nat.ble 0 i && Nat.ble i 1) || Nat.beq i 3) = true) : BX9 i = true := jl h
def pD_9 (x : MX) (a : OV) (i : Nat) : Prop := True
def pR_9 (x : MX) (a : OV) (i : Nat) : Prop := (((((True ∧ decide (nI i < nI a.n) = true) ∧ 0 ≤ nI i ∧ nI i < nI a.n) ∧ (0 + i * 2 + 1) % 2 = 1 ∧ (0 + i * 2 + 1) / 2 < x.CN a.P) ∧ decide (nI (x.CM a.P (ix3 i)) > 200) = false) ∧ IntKind.i64.wrap (nI i + 1) = nI i + 1)
def pX_9 (x : MX) (a : OV) (i : Nat) : Prop := (True ∧ decide (nI i < nI a.n) = false)
def pF0_9 (x : MX) (a : OV) (i : Nat) : Prop := ((((True ∧ decide (nI i < nI a.n) = true) ∧ 0 ≤ nI i ∧ nI i < nI a.n) ∧ (0 + i * 2 + 1) % 2 = 1 ∧ (0 + i * 2 + 1) / 2 < x.CN a.P) ∧ decide (nI (x.CM a.P (ix3 i)) > 200) = true)
def pE0_9 (x : MX) (a : OV) (i : Nat) : Prop := True
theorem kD9 (x : MX) (a : OV) : (gd9 KN (z9 x a) []).map (fun r => (r.2, r.1.obl, seenInT BD9 r.1 (s9 x a 0 (VD9 vU)) [0, 1])) = some (.loop l9, pD_9 x a 0, seenAsT BD9 (s9 x a 0 (VD9 vU)) [0, 1] 2) := by kernel_rfl
theorem kR9 (x : MX) (a : OV) (i : Nat) (v : VF) : (go9 KN l9 (s9 x a i v) [some true, some true, some false, none, some true, some false, some true]).map (fun r => (r.1, r.2.obl, seenInT BR9 r.2 (s9 x a (i + 1) (VR9 v)) [0, 1])) = some (.normal, pR_9 x a i, seenAsT BR9 (s9 x a (i + 1) (VR9 v)) [0, 1] 2) := by kernel_rfl
theorem kX9 (x : MX) (a : OV) (i : Nat) (v : VF) : (go9 KN l9 (s9 x a i v) [some false]).map (fun r => (r.1, r.2.obl, seenInT BX9 r.2 (s9 x a i (VX9 v)) [0, 1])) = some (.exit 0, pX_9 x a i, seenAsT BX9 (s9 x a i (VX9 v)) [0, 1] 2) := by kernel_rfl
theorem kF0_9 (x : MX) (a : OV) (i : Nat) (v : VF) : (go9 KN l9 (s9 x a i v) [some true, some true, some false, none, some true, some true]).bind (fun r => (results1 Try.prog r.2 [.tmp 2]).map fun q => (r.1, q.2.obl, r.2.defers, oneOf q.1)) = some (.ret, pF0_9 x a i, [], .bool false) := by kernel_rfl
theorem kE0_9 (x : MX) (a : OV) (i : Nat) (v : VF) : (go9 KN e9 (s9 x a i v) []).bind (fun r => (results1 Try.prog r.2 [.tmp 2]).map fun q => (r.1, q.2.obl, r.2.defers, oneOf q.1)) = some (.ret, pE0_9 x a i, [], .bool (decide (nI a.n ≤ 30))) := by kernel_rfl
theorem okD9 (x : MX) (a : OV) (i : Nat) (v : VF) : picOkT BD9 (z9 x a) (s9 x a i (VD9 v)) [0, 1] = true := by kernel_rfl
theorem okR9 (x : MX) (a : OV) (i : Nat) (v : VF) : picOkT BR9 (z9 x a) (s9 x a i (VR9 v)) [0, 1] = true := by kernel_rfl
theorem okX9 (x : MX) (a : OV) (i : Nat) (v : VF) : picOkT BX9 (z9 x a) (s9 x a i (VX9 v)) [0, 1] = true := by kernel_rfl
theorem up9 (x : MX) (a : OV) (Q_ : Exit → St → Prop) : upQ Try.prog none (z9 x a) [2, 3, 2, 0] b9 Q_ = fun e s => (fun e s => (e = .normal ∧ StepG Try.prog none (z9 x a) e9 s Q_) ∨ (e ≠ .normal ∧ Q_ e s)) (blockOut 0 e) s := by kernel_rfl
theorem rd9 {x : MX} {a : OV} (hA : a.n ≤ x.CN a.P ∧ a.n ≤ 9223372036854775807) : Rd Try.prog x.F 9 (a9 a) (.bool (fewE x a)) := by
  obtain ⟨p1, p2⟩ := hA
  refine find_rd (way := [2, 3, 2, 0]) (pic := fun i v => s9 x a i v) (e := fewCapE x a.P) (N := a.n) (v0 := VD9 vU) (s0 := z9 x a) rfl fn9 rfl (fun Q_ h => StepG.downs pg KN_ok (kD9 x a) (trivial) (tm9_dead (VD9_dead vU_dead) lvD9) (h9_ok x a) rfl (okD9 x a 0 vU) h) (up9 x a) (fun i v hv hi he => ?_) (fun i v hv hi hp he => ?_) (fun v hv => ?_) (fun hall v hv => ?_) (VD9_dead vU_dead)
  · refine (StepG.stdT (s0 := z9 x a) (rd := none) pg KN_ok (kR9 x a i v) ?_ (show 1 ≤ 2 by decide) (tm9_dead (VR9_dead hv) lvR9) (h9_ok x a) rfl (okR9 x a (i + 1) v)).mono ?_
    · exact ⟨⟨⟨⟨⟨trivial, decide_eq_true (by unfold nI; omega)⟩, by unfold nI; omega⟩, by omega⟩, by unfold fewCapE at he; simpa using he⟩, by rw [IntKind.wrap_i64]; unfold nI; omega⟩
    · rintro ex s_ ⟨rfl, rfl⟩
      exact ⟨rfl, _, VR9_dead hv, rfl⟩
  · rw [show fewE x a = false by unfold fewE; rw [allB_no he hi]; rfl]
    exact StepG.ranV (s0 := z9 x a) (rd := none) pg KN_ok (kF0_9 x a i v) ⟨⟨⟨⟨trivial, decide_eq_true (by unfold nI; omega)⟩, by unfold nI; omega⟩, by omega⟩, by unfold fewCapE at he; simpa using he⟩ (show 1 ≤ 2 by decide)
  · refine (StepG.stdT (s0 := z9 x a) (rd := none) pg KN_ok (kX9 x a a.n v) ⟨trivial, decide_eq_false (by unfold nI; omega)⟩ (show 1 ≤ 2 by decide) (tm9_dead (VX9_dead hv) lvX9) (h9_ok x a) rfl (okX9 x a a.n v)).mono ?_
    rintro ex s_ ⟨rfl, rfl⟩
    exact ⟨rfl, _, VX9_dead hv, rfl⟩
  · rw [show fewE x a = decide (nI a.n ≤ 30) by unfold fewE; rw [allB_all hall, Bool.true_and]]
    exact StepG.ranV (s0 := z9 x a) (rd := none) pg KN_ok (kE0_9 x a a.n v) trivial (show 1 ≤ 2 by decide)
end
end ob
end Go.Proofs.Ytpfmilkddapfiaa
namespace Go.Proofs.Ytpfmilkddapfiaa
open Go.ChangeShapes Go.WideShapes Go.ChangeAt Go.RowKit Go.Cln
namespace ob
set_option linter.unusedVariables false
noncomputable section
end
end ob
end Go.Proofs.Ytpfmilkddapfiaa
