/- Read off the code by the clean reading. -/
import Derived.Test.YtpfmilkddapfiaaClnMe
import Derived.Test.YtpfmilkddapfiaaClnQd
set_option linter.unusedVariables false
set_option linter.unusedSimpArgs false
set_option linter.deprecated false
set_option maxRecDepth 100000
namespace Go.Proofs.Ytpfmilkddapfiaa
open Go.ChangeShapes Go.WideShapes Go.ChangeAt Go.RowKit Go.Cln
namespace ob
set_option linter.unusedVariables false
noncomputable section
def w61 (k : Int) (n : Nat) : Bool := (k == 0) || ((k == 65) || decide (nI n > 100))
theorem k61a (x : MX) (k : Int) (P n c : Nat) : ((mk Try.prog KN 200).call 61 [cv k P n c] (smSt 1 [some (.fam x.F)] [some true, none, none, none])).map (fun r => (r.1, r.2.obl)) = some (.bool true, True ∧ (k == 0) = true) := by kernel_rfl
theorem k61b (x : MX) (k : Int) (P n c : Nat) : ((mk Try.prog KN 200).call 61 [cv k P n c] (smSt 1 [some (.fam x.F)] [some false, none, none, none, some true])).map (fun r => (r.1, r.2.obl)) = some (.bool true, (True ∧ (k == 0) = false) ∧ (k == 65) = true) := by kernel_rfl
theorem k61c (x : MX) (k : Int) (P n c : Nat) : ((mk Try.prog KN 200).call 61 [cv k P n c] (smSt 1 [some (.fam x.F)] [some false, none, none, none, some false])).map (fun r => (r.1, r.2.obl)) = some (.bool (decide (nI n > 100)), (True ∧ (k == 0) = false) ∧ (k == 65) = false) := by kernel_rfl
theorem rd61 {x : MX} {k : Int} {P n c : Nat} : Rd Try.prog x.F 61 [cv k P n c] (.bool (w61 k n)) := by
  unfold w61
  cases h1 : (k == 0) with
  | true => exact Rd.run pg KN_ok (k61a x k P n c) ⟨trivial, h1⟩ rfl
  | false => cases h2 : (k == 65) with
    | true => exact Rd.run pg KN_ok (k61b x k P n c) ⟨⟨trivial, h1⟩, h2⟩ rfl
    | false => exact Rd.run pg KN_ok (k61c x k P n c) ⟨⟨trivial, h1⟩, h2⟩ rfl
def w56 (a : OV) : Bool := (a.asn == 0) || (a.id == 0)
theorem k56a (x : MX) (a : OV) : ((mk Try.prog KN 200).call 56 [a.v] (smSt 1 [some (.fam x.F)] [some true, none, none, none])).map (fun r => (r.1, r.2.obl)) = some (.bool true, True ∧ (a.asn == 0) = true) := by kernel_rfl
theorem k56b (x : MX) (a : OV) : ((mk Try.prog KN 200).call 56 [a.v] (smSt 1 [some (.fam x.F)] [some false, none, none, none])).map (fun r => (r.1, r.2.obl)) = some (.bool (a.id == 0), True ∧ (a.asn == 0) = false) := by kernel_rfl
theorem rd56 {x : MX} {a : OV} : Rd Try.prog x.F 56 [a.v] (.bool (w56 a)) := by
  unfold w56
  cases h1 : (a.asn == 0) with
  | true => exact Rd.run pg KN_ok (k56a x a) ⟨trivial, h1⟩ rfl
  | false => exact Rd.run pg KN_ok (k56b x a) ⟨trivial, h1⟩ rfl
def w57 (a : OV) : Bool := (a.hold != 0) && decide (a.hold < 3)
theorem k57a (x : MX) (a : OV) : ((mk Try.prog KN 200).call 57 [a.v] (smSt 1 [some (.fam x.F)] [some true, none, none, none])).map (fun r => (r.1, r.2.obl)) = some (.bool (decide (a.hold < 3)), True ∧ (a.hold != 0) = true) := by kernel_rfl
theorem k57b (x : MX) (a : OV) : ((mk Try.prog KN 200).call 57 [a.v] (smSt 1 [some (.fam x.F)] [some false, none, none, none])).map (fun r => (r.1, r.2.obl)) = some (.bool false, True ∧ (a.hold != 0) = false) := by kernel_rfl
theorem rd57 {x : MX} {a : OV} : Rd Try.prog x.F 57 [a.v] (.bool (w57 a)) := by
  unfold w57
  cases h1 : (a.hold != 0) with
  | true => exact Rd.run pg KN_ok (k57a x a) ⟨trivial, h1⟩ rfl
  | false => exact Rd.run pg KN_ok (k57b x a) ⟨trivial, h1⟩ rfl
def w58 (a : OV) : Bool := decide (nI a.n > 8)
theorem k58 (x : MX) (a : OV) : ((mk Try.prog KN 200).call 58 [a.v] (smSt 1 [some (.fam x.F)] [])).map (fun r => (r.1, r.2.obl)) = some (.bool (w58 a), True) := by kernel_rfl
theorem rd58 {x : MX} {a : OV} : Rd Try.prog x.F 58 [a.v] (.bool (w58 a)) := Rd.run pg KN_ok (k58 x a) trivial rfl
def okC (x : MX) (P i : Nat) : Bool := !w61 (x.CK P (ix2 i)) (x.CM P (ix2 i))
noncomputable def rw61 (x : MX) (args : List Value) : Option (Value × Prop) := match args with
  | [.agg z0] => (cvOf z0).bind fun u => some (.bool (w61 u.1 u.2.2.1), True)
  | _ => none
theorem rw61_ok (x : MX) {args : List Value} {r : Value × Prop} (h : rw61 x args = some r) : flat r.1 = true ∧ args.all farV = true ∧ (r.2 → Rd Try.prog x.F 61 args r.1) := by
  unfold rw61 at h
  split at h
  · rename_i z0
    rw [Option.bind_eq_some_iff] at h
    obtain ⟨u, hu, h⟩ := h
    cases h
    rw [cvOf_eq hu]
    exact ⟨rfl, rfl, fun hp => rd61⟩
  · cases h
noncomputable def TW1 (x : MX) (f : FuncId) (args : List Value) : Option (Value × Prop) := if f == 61 then rw61 x args else none
theorem TW1_ok (x : MX) (f : FuncId) (args : List Value) (r : Value × Prop) (h : TW1 x f args = some r) : flat r.1 = true ∧ args.all farV = true ∧ (r.2 → Rd Try.prog x.F f args r.1) := by
  unfold TW1 at h
  by_cases e61 : (f == 61) = true
  · have hf : f = 61 := by simpa using e61
    subst hf
    exact rw61_ok x h
  rw [if_neg e61] at h
  cases h
noncomputable def KW1 (x : MX) : Given := { Given.rds Given.nothing x.F (TW1 x) with fits := true }
theorem KW1_ok (x : MX) : GivenOk Try.prog (KW1 x) := frames_fits ((GivenOk.nothing _).rds (TW1_ok x)) true
def b41w : Code := ((Try.prog.funcs[41]?).bind (·.body)).getD .skip
def l41w : Code := loopB Try.prog 41 0
def e41w : Code := dropC 2 b41w
theorem fn41w : (Try.prog.funcs[41]?).map (fun f => (f.body, f.results.toList, f.ntmps)) = some (some b41w, [.tmp 4], 19) := by kernel_rfl
noncomputable abbrev a41w (P n c : Nat) : List Value := [PC P n c, .func (.func 61) #[] #[]]
noncomputable def z41w (x : MX) (P n c : Nat) : St := { smSt 1 [some (.fam x.F)] [] with tmps := a41w P n c ++ List.replicate (19 - (a41w P n c).length) undef, defers := [] }
noncomputable def tm41w (v : VF) (P n c : Nat) (i : Nat) : List Value := (PC P n c :: .func (.func 61) #[] #[] :: vs v 2 5 (.int .i64 (nI n) :: .int .i64 (nI i) :: vs v 9 10 []))
theorem tm41w_dead {v : VF} {P n c : Nat} {i : Nat} {B : Nat → Bool} (h : ∀ i, DeadV (v i)) (hB : ∀ i, ((Nat.ble 0 i && Nat.ble i 1) || (Nat.ble 7 i && Nat.ble i 8)) = true → B i = true) : deadT B 0 (tm41w v P n c i) :=
  dl (hB 0 rfl) (dl (hB 1 rfl) (deadT_vs h 5 (dl (hB 7 rfl) (dl (hB 8 rfl) (deadT_vs h 10 (trivial))))))
noncomputable def h41w (x : MX) (P n c : Nat) : Nat → Option Ob := fun i => match i with
  | 0 => some (.fam x.F)
  | _ => none
theorem h41w_ok (x : MX) (P n c : Nat) : Go.Cln.RowsIn (h41w x P n c) := by
  intro b n' w' g' t h
  unfold h41w at h
  split at h <;> first | (cases h; done) | cases h
noncomputable def s41w (x : MX) (P n c : Nat) (i : Nat) (v : VF) : St := ⟨tm41w v P n c i, [], Tr.rebuild (h41w x P n c) 1, 1, 1, [], fun _ => false, True, []⟩
noncomputable def go41w (K : Given) (c : Code) (s : St) (o : List (Option Bool)) : Option (Exit × St) := (mk Try.prog K 200).code 41 none c { s with obl := True, orc := o }
noncomputable def gd41w (K : Given) (s : St) (o : List (Option Bool)) : Option (St × Code) := down (mk Try.prog K 200) 41 none [2, 3, 2, 0] b41w { s with obl := True, orc := o }
def WD41w (i : Nat) : Bool := Nat.beq i 4 || Nat.beq i 6
noncomputable def VD41w (v : VF) : VF := fun i => match WD41w i with
  | true => junk
  | false => v i
def BD41w (i : Nat) : Bool := ((Nat.ble 0 i && Nat.ble i 1) || (Nat.ble 7 i && Nat.ble i 8)) || WD41w i
theorem VD41w_dead {v : VF} (h : ∀ i, DeadV (v i)) (i : Nat) : DeadV (VD41w v i) := jD (W := WD41w) h i
theorem lvD41w (i : Nat) (h : ((Nat.ble 0 i && Nat.ble i 1) || (Nat.ble 7 i && Nat.ble i 8)) = true) : BD41w i = true := jl h
def WR41w (i : Nat) : Bool := Nat.beq i 5 || (Nat.ble 9 i && Nat.ble i 14) || Nat.beq i 16 || Nat.beq i 18
noncomputable def VR41w (v : VF) : VF := fun i => match Nat.beq i 15 with
  | true => .agg #[junk, junk]
  | false => match WR41w i with
  | true => junk
  | false => v i
def BR41w (i : Nat) : Bool := ((Nat.ble 0 i && Nat.ble i 1) || (Nat.ble 7 i && Nat.ble i 8)) || WR41w i || Nat.beq i 15
theorem VR41w_dead {v : VF} (h : ∀ i, DeadV (v i)) (i : Nat) : DeadV (VR41w v i) := by
  unfold VR41w
  split
  · exact ⟨rfl, fun _ => rfl, fun _ => rfl⟩
  split
  · exact DeadV.junk
  · exact h i
theorem lvR41w (i : Nat) (h : ((Nat.ble 0 i && Nat.ble i 1) || (Nat.ble 7 i && Nat.ble i 8)) = true) : BR41w i = true := jl (jl h)
def WX41w (i : Nat) : Bool := Nat.beq i 9
noncomputable def VX41w (v : VF) : VF := fun i => match WX41w i with
  | true => junk
  | false => v i
def BX41w (i : Nat) : Bool := ((Nat.ble 0 i && Nat.ble i 1) || (Nat.ble 7 i && Nat.ble i 8)) || WX41w i
theorem VX41w_dead {v : VF} (h : ∀ i, DeadV (v i)) (i : Nat) : DeadV (VX41w v i) := jD (W := WX41w) h i
theorem lvX41w (i : Nat) (h : ((Nat.ble 0 i && Nat.ble i 1) || (Nat.ble 7 i && Nat.ble i 8)) = true) : BX41w i = true := jl h
def pD_41w (x : MX) (P n c : Nat) (i : Nat) : Prop := True
def pR_41w (x : MX) (P n c : Nat) (i : Nat) : Prop := ((((((True ∧ decide (nI i < nI n) = true) ∧ 0 ≤ nI i ∧ nI i < nI n) ∧ ((0 + i * 2) % 2 = 0 ∧ (0 + i * 2) / 2 < x.CN P)) ∧ x.F = x.F ∧ True) ∧ w61 (x.CK P (ix2 i)) (x.CM P (ix2 i)) = false) ∧ IntKind.i64.wrap (nI i + 1) = nI i + 1)
def pX_41w (x : MX) (P n c : Nat) (i : Nat) : Prop := (True ∧ decide (nI i < nI n) = false)
def pF0_41w (x : MX) (P n c : Nat) (i : Nat) : Prop := (((((True ∧ decide (nI i < nI n) = true) ∧ 0 ≤ nI i ∧ nI i < nI n) ∧ ((0 + i * 2) % 2 = 0 ∧ (0 + i * 2) / 2 < x.CN P)) ∧ x.F = x.F ∧ True) ∧ w61 (x.CK P (ix2 i)) (x.CM P (ix2 i)) = true)
def pE0_41w (x : MX) (P n c : Nat) (i : Nat) : Prop := True
theorem kD41w (x : MX) (P n c : Nat) : (gd41w (KW1 x) (z41w x P n c) []).map (fun r => (r.2, r.1.obl, seenInT BD41w r.1 (s41w x P n c 0 (VD41w vU)) [0])) = some (.loop l41w, pD_41w x P n c 0, seenAsT BD41w (s41w x P n c 0 (VD41w vU)) [0] 1) := by kernel_rfl
theorem kR41w (x : MX) (P n c : Nat) (i : Nat) (v : VF) : (go41w (KW1 x) l41w (s41w x P n c i v) [some true, some true, some false, some true, some false, some true]).map (fun r => (r.1, r.2.obl, seenInT BR41w r.2 (s41w x P n c (i + 1) (VR41w v)) [0])) = some (.normal, pR_41w x P n c i, seenAsT BR41w (s41w x P n c (i + 1) (VR41w v)) [0] 1) := by kernel_rfl
theorem kX41w (x : MX) (P n c : Nat) (i : Nat) (v : VF) : (go41w (KW1 x) l41w (s41w x P n c i v) [some false]).map (fun r => (r.1, r.2.obl, seenInT BX41w r.2 (s41w x P n c i (VX41w v)) [0])) = some (.exit 0, pX_41w x P n c i, seenAsT BX41w (s41w x P n c i (VX41w v)) [0] 1) := by kernel_rfl
theorem kF0_41w (x : MX) (P n c : Nat) (i : Nat) (v : VF) : (go41w (KW1 x) l41w (s41w x P n c i v) [some true, some true, some false, some true, some true]).bind (fun r => (results1 Try.prog r.2 [.tmp 4]).map fun q => (r.1, q.2.obl, r.2.defers, oneOf q.1)) = some (.ret, pF0_41w x P n c i, [], .int .i64 (nI i)) := by kernel_rfl
theorem kE0_41w (x : MX) (P n c : Nat) (i : Nat) (v : VF) : (go41w (KW1 x) e41w (s41w x P n c i v) []).bind (fun r => (results1 Try.prog r.2 [.tmp 4]).map fun q => (r.1, q.2.obl, r.2.defers, oneOf q.1)) = some (.ret, pE0_41w x P n c i, [], .int .i64 (-1)) := by kernel_rfl
theorem okD41w (x : MX) (P n c : Nat) (i : Nat) (v : VF) : picOkT BD41w (z41w x P n c) (s41w x P n c i (VD41w v)) [0] = true := by kernel_rfl
theorem okR41w (x : MX) (P n c : Nat) (i : Nat) (v : VF) : picOkT BR41w (z41w x P n c) (s41w x P n c i (VR41w v)) [0] = true := by kernel_rfl
theorem okX41w (x : MX) (P n c : Nat) (i : Nat) (v : VF) : picOkT BX41w (z41w x P n c) (s41w x P n c i (VX41w v)) [0] = true := by kernel_rfl
theorem up41w (x : MX) (P n c : Nat) (Q_ : Exit → St → Prop) : upQ Try.prog none (z41w x P n c) [2, 3, 2, 0] b41w Q_ = fun e s => (fun e s => (e = .normal ∧ StepG Try.prog none (z41w x P n c) e41w s Q_) ∨ (e ≠ .normal ∧ Q_ e s)) (blockOut 0 e) s := by kernel_rfl
theorem rd41w {x : MX} {P n c : Nat} (hP : n ≤ x.CN P ∧ n ≤ 9223372036854775807) : Rd Try.prog x.F 41 (a41w P n c) (.int .i64 (whereI (okC x P) n)) := by
  obtain ⟨p1, p2⟩ := hP
  refine find_rd (way := [2, 3, 2, 0]) (pic := fun i v => s41w x P n c i v) (e := okC x P) (N := n) (v0 := VD41w vU) (s0 := z41w x P n c) rfl fn41w rfl (fun Q_ h => StepG.downs pg (KW1_ok x) (kD41w x P n c) (trivial) (tm41w_dead (VD41w_dead vU_dead) lvD41w) (h41w_ok x P n c) rfl (okD41w x P n c 0 vU) h) (up41w x P n c) (fun i v hv hi he => ?_) (fun i v hv hi hp he => ?_) (fun v hv => ?_) (fun hall v hv => ?_) (VD41w_dead vU_dead)
  · refine (StepG.stdT (s0 := z41w x P n c) (rd := none) pg (KW1_ok x) (kR41w x P n c i v) ?_ (show 1 ≤ 1 by decide) (tm41w_dead (VR41w_dead hv) lvR41w) (h41w_ok x P n c) rfl (okR41w x P n c (i + 1) v)).mono ?_
    · exact ⟨⟨⟨⟨⟨⟨trivial, decide_eq_true (by unfold nI; omega)⟩, by unfold nI; omega⟩, by omega⟩, ⟨rfl, trivial⟩⟩, by unfold okC at he; simpa using he⟩, by rw [IntKind.wrap_i64]; unfold nI; omega⟩
    · rintro ex s_ ⟨rfl, rfl⟩
      exact ⟨rfl, _, VR41w_dead hv, rfl⟩
  · rw [whereI_at hi hp he]
    exact StepG.ranV (s0 := z41w x P n c) (rd := none) pg (KW1_ok x) (kF0_41w x P n c i v) ⟨⟨⟨⟨⟨trivial, decide_eq_true (by unfold nI; omega)⟩, by unfold nI; omega⟩, by omega⟩, ⟨rfl, trivial⟩⟩, by unfold okC at he; simpa using he⟩ (show 1 ≤ 1 by decide)
  · refine (StepG.stdT (s0 := z41w x P n c) (rd := none) pg (KW1_ok x) (kX41w x P n c n v) ⟨trivial, decide_eq_false (by unfold nI; omega)⟩ (show 1 ≤ 1 by decide) (tm41w_dead (VX41w_dead hv) lvX41w) (h41w_ok x P n c) rfl (okX41w x P n c n v)).mono ?_
    rintro ex s_ ⟨rfl, rfl⟩
    exact ⟨rfl, _, VX41w_dead hv, rfl⟩
  · rw [whereI_all hall]
    exact StepG.ranV (s0 := z41w x P n c) (rd := none) pg (KW1_ok x) (kE0_41w x P n c n v) trivial (show 1 ≤ 1 by decide)
noncomputable def rw41 (x : MX) (args : List Value) : Option (Value × Prop) := match args with
  | [.slice (some ⟨P, 0, some 1003⟩) n c, .func (.func 61) ⟨[]⟩ ⟨[]⟩] => some (.int .i64 (whereI (okC x P) n), n ≤ x.CN P ∧ n ≤ 9223372036854775807)
  | _ => none
theorem rw41_ok (x : MX) {args : List Value} {r : Value × Prop} (h : rw41 x args = some r) : flat r.1 = true ∧ args.all farV = true ∧ (r.2 → Rd Try.prog x.F 41 args r.1) := by
  unfold rw41 at h
  split at h
  · rename_i P n c
    cases h
    exact ⟨rfl, rfl, fun hp => rd41w hp⟩
  · cases h
noncomputable def TW2 (x : MX) (f : FuncId) (args : List Value) : Option (Value × Prop) := if f == 41 then rw41 x args else TW1 x f args
theorem TW2_ok (x : MX) (f : FuncId) (args : List Value) (r : Value × Prop) (h : TW2 x f args = some r) : flat r.1 = true ∧ args.all farV = true ∧ (r.2 → Rd Try.prog x.F f args r.1) := by
  unfold TW2 at h
  by_cases e41 : (f == 41) = true
  · have hf : f = 41 := by simpa using e41
    subst hf
    exact rw41_ok x h
  rw [if_neg e41] at h
  exact TW1_ok x f args r h
noncomputable def KW2 (x : MX) : Given := { Given.rds Given.nothing x.F (TW2 x) with fits := true }
theorem KW2_ok (x : MX) : GivenOk Try.prog (KW2 x) := frames_fits ((GivenOk.nothing _).rds (TW2_ok x)) true
theorem k60 (x : MX) (P n c : Nat) : ((mk Try.prog (KW2 x) 200).call 60 [PC P n c, .func (.func 61) #[] #[]] (smSt 1 [some (.fam x.F)] [])).map (fun r => (r.1, r.2.obl)) = some (.bool (decide (whereI (okC x P) n ≥ 0)), (True ∧ (x.F = x.F ∧ n ≤ x.CN P ∧ n ≤ 9223372036854775807))) := by kernel_rfl
theorem rd60 {x : MX} {P n c : Nat} (hP : n ≤ x.CN P ∧ n ≤ 9223372036854775807) : Rd Try.prog x.F 60 [PC P n c, .func (.func 61) #[] #[]] (.bool (!allB (okC x P) n)) := by
  rw [← whereI_ge]
  exact Rd.run pg (KW2_ok x) (k60 x P n c) ⟨trivial, rfl, hP⟩ rfl
noncomputable def rw60 (x : MX) (args : List Value) : Option (Value × Prop) := match args with
  | [.slice (some ⟨P, 0, some 1003⟩) n c, .func (.func 61) ⟨[]⟩ ⟨[]⟩] => some (.bool (!allB (okC x P) n), n ≤ x.CN P ∧ n ≤ 9223372036854775807)
  | _ => none
theorem rw60_ok (x : MX) {args : List Value} {r : Value × Prop} (h : rw60 x args = some r) : flat r.1 = true ∧ args.all farV = true ∧ (r.2 → Rd Try.prog x.F 60 args r.1) := by
  unfold rw60 at h
  split at h
  · rename_i P n c
    cases h
    exact ⟨rfl, rfl, fun hp => rd60 hp⟩
  · cases h
noncomputable def TW3 (x : MX) (f : FuncId) (args : List Value) : Option (Value × Prop) := if f == 60 then rw60 x args else TW2 x f args
theorem TW3_ok (x : MX) (f : FuncId) (args : List Value) (r : Value × Prop) (h : TW3 x f args = some r) : flat r.1 = true ∧ args.all farV = true ∧ (r.2 → Rd Try.prog x.F f args r.1) := by
  unfold TW3 at h
  by_cases e60 : (f == 60) = true
  · have hf : f = 60 := by simpa using e60
    subst hf
    exact rw60_ok x h
  rw [if_neg e60] at h
  exact TW2_ok x f args r h
noncomputable def KW3 (x : MX) : Given := { Given.rds Given.nothing x.F (TW3 x) with fits := true }
theorem KW3_ok (x : MX) : GivenOk Try.prog (KW3 x) := frames_fits ((GivenOk.nothing _).rds (TW3_ok x)) true
def w59 (x : MX) (a : OV) : Bool := !allB (okC x a.P) a.n
theorem k59 (x : MX) (a : OV) : ((mk Try.prog (KW3 x) 200).call 59 [a.v] (smSt 1 [some (.fam x.F)] [])).map (fun r => (r.1, r.2.obl)) = some (.bool (w59 x a), (True ∧ (x.F = x.F ∧ a.n ≤ x.CN a.P ∧ a.n ≤ 9223372036854775807))) := by kernel_rfl
theorem rd59 {x : MX} {a : OV} (hA : a.n ≤ x.CN a.P ∧ a.n ≤ 9223372036854775807) : Rd Try.prog x.F 59 [a.v] (.bool (w59 x a)) := Rd.run pg (KW3_ok x) (k59 x a) ⟨trivial, rfl, hA⟩ rfl
end
end ob
end Go.Proofs.Ytpfmilkddapfiaa
namespace Go.Proofs.Ytpfmilkddapfiaa
open Go.ChangeShapes Go.WideShapes Go.ChangeAt Go.RowKit Go.Cln
namespace ob
set_option linter.unusedVariables false
noncomputable section
def ixp (i : Nat) : Nat := (0 + (nI (i + 1) - 1).toNat * 2) / 2
theorem ixp_eq (i : Nat) : ixp i = i := by unfold ixp nI; omega
def ixq (i : Nat) : Nat := (0 + (i + 1) * 2) / 2
theorem ixq_eq (i : Nat) : ixq i = i + 1 := by unfold ixq; omega
def upC (x : MX) (P i : Nat) : Bool := !decide (x.CK P (ixp i) ≥ x.CK P (ixq i))
def riseE (x : MX) (P n : Nat) : Bool := allB (upC x P) (n - 1)
def b55 : Code := ((Try.prog.funcs[55]?).bind (·.body)).getD .skip
def l55 : Code := loopB Try.prog 55 0
def e55 : Code := dropC 2 b55
theorem fn55 : (Try.prog.funcs[55]?).map (fun f => (f.body, f.results.toList, f.ntmps)) = some (some b55, [.tmp 2], 22) := by kernel_rfl
noncomputable abbrev a55 (P n c : Nat) : List Value := [PC P n c]
noncomputable def z55 (x : MX) (P n c : Nat) : St := { smSt 1 [some (.fam x.F)] [] with tmps := a55 P n c ++ List.replicate (22 - (a55 P n c).length) undef, defers := [] }
noncomputable def tm55 (v : VF) (P n c : Nat) (i : Nat) : List Value := (PC P n c :: v 1 :: v 2 :: .int .i64 (nI (i + 1)) :: vs v 4 18 [])
theorem tm55_dead {v : VF} {P n c : Nat} {i : Nat} {B : Nat → Bool} (h : ∀ i, DeadV (v i)) (hB : ∀ i, (Nat.beq i 0 || Nat.beq i 3) = true → B i = true) : deadT B 0 (tm55 v P n c i) :=
  dl (hB 0 rfl) (dn (h 1) (dn (h 2) (dl (hB 3 rfl) (deadT_vs h 18 (trivial)))))
noncomputable def h55 (x : MX) (P n c : Nat) : Nat → Option Ob := fun i => match i with
  | 0 => some (.fam x.F)
  | _ => none
theorem h55_ok (x : MX) (P n c : Nat) : Go.Cln.RowsIn (h55 x P n c) := by
  intro b n' w' g' t h
  unfold h55 at h
  split at h <;> first | (cases h; done) | cases h
noncomputable def s55 (x : MX) (P n c : Nat) (i : Nat) (v : VF) : St := ⟨tm55 v P n c i, [], Tr.rebuild (h55 x P n c) 1, 1, 1, [], fun _ => false, True, []⟩
noncomputable def go55 (K : Given) (c : Code) (s : St) (o : List (Option Bool)) : Option (Exit × St) := (mk Try.prog K 200).code 55 none c { s with obl := True, orc := o }
noncomputable def gd55 (K : Given) (s : St) (o : List (Option Bool)) : Option (St × Code) := down (mk Try.prog K 200) 55 none [2, 3, 2, 0] b55 { s with obl := True, orc := o }
def WD55 (i : Nat) : Bool := Nat.beq i 2
noncomputable def VD55 (v : VF) : VF := fun i => match WD55 i with
  | true => junk
  | false => v i
def BD55 (i : Nat) : Bool := (Nat.beq i 0 || Nat.beq i 3) || WD55 i
theorem VD55_dead {v : VF} (h : ∀ i, DeadV (v i)) (i : Nat) : DeadV (VD55 v i) := jD (W := WD55) h i
theorem lvD55 (i : Nat) (h : (Nat.beq i 0 || Nat.beq i 3) = true) : BD55 i = true := jl h
def WR55 (i : Nat) : Bool := (Nat.ble 4 i && Nat.ble i 21)
noncomputable def VR55 (v : VF) : VF := fun i => match WR55 i with
  | true => junk
  | false => v i
def BR55 (i : Nat) : Bool := (Nat.beq i 0 || Nat.beq i 3) || WR55 i
theorem VR55_dead {v : VF} (h : ∀ i, DeadV (v i)) (i : Nat) : DeadV (VR55 v i) := jD (W := WR55) h i
theorem lvR55 (i : Nat) (h : (Nat.beq i 0 || Nat.beq i 3) = true) : BR55 i = true := jl h
def WX55 (i : Nat) : Bool := (Nat.ble 4 i && Nat.ble i 7)
noncomputable def VX55 (v : VF) : VF := fun i => match WX55 i with
  | true => junk
  | false => v i
def BX55 (i : Nat) : Bool := (Nat.beq i 0 || Nat.beq i 3) || WX55 i
theorem VX55_dead {v : VF} (h : ∀ i, DeadV (v i)) (i : Nat) : DeadV (VX55 v i) := jD (W := WX55) h i
theorem lvX55 (i : Nat) (h : (Nat.beq i 0 || Nat.beq i 3) = true) : BX55 i = true := jl h
def pD_55 (x : MX) (P n c : Nat) (i : Nat) : Prop := True
def pR_55 (x : MX) (P n c : Nat) (i : Nat) : Prop := ((((((((True ∧ decide (nI (i + 1) < nI n) = true) ∧ IntKind.i64.wrap (nI (i + 1) - 1) = nI (i + 1) - 1) ∧ 0 ≤ nI (i + 1) - 1 ∧ nI (i + 1) - 1 < nI n) ∧ (0 + (nI (i + 1) - 1).toNat * 2) % 2 = 0 ∧ (0 + (nI (i + 1) - 1).toNat * 2) / 2 < x.CN P) ∧ 0 ≤ nI (i + 1) ∧ nI (i + 1) < nI n) ∧ (0 + (i + 1) * 2) % 2 = 0 ∧ (0 + (i + 1) * 2) / 2 < x.CN P) ∧ decide (x.CK P (ixp i) ≥ x.CK P (ixq i)) = false) ∧ IntKind.i64.wrap (nI (i + 1) + 1) = nI (i + 1) + 1)
def pX_55 (x : MX) (P n c : Nat) (i : Nat) : Prop := (True ∧ decide (nI (i + 1) < nI n) = false)
def pF0_55 (x : MX) (P n c : Nat) (i : Nat) : Prop := (((((((True ∧ decide (nI (i + 1) < nI n) = true) ∧ IntKind.i64.wrap (nI (i + 1) - 1) = nI (i + 1) - 1) ∧ 0 ≤ nI (i + 1) - 1 ∧ nI (i + 1) - 1 < nI n) ∧ (0 + (nI (i + 1) - 1).toNat * 2) % 2 = 0 ∧ (0 + (nI (i + 1) - 1).toNat * 2) / 2 < x.CN P) ∧ 0 ≤ nI (i + 1) ∧ nI (i + 1) < nI n) ∧ (0 + (i + 1) * 2) % 2 = 0 ∧ (0 + (i + 1) * 2) / 2 < x.CN P) ∧ decide (x.CK P (ixp i) ≥ x.CK P (ixq i)) = true)
def pE0_55 (x : MX) (P n c : Nat) (i : Nat) : Prop := True
theorem kD55 (x : MX) (P n c : Nat) : (gd55 KN (z55 x P n c) []).map (fun r => (r.2, r.1.obl, seenInT BD55 r.1 (s55 x P n c 0 (VD55 vU)) [0])) = some (.loop l55, pD_55 x P n c 0, seenAsT BD55 (s55 x P n c 0 (VD55 vU)) [0] 1) := by kernel_rfl
theorem kR55 (x : MX) (P n c : Nat) (i : Nat) (v : VF) : (go55 KN l55 (s55 x P n c i v) [some true, some true, some true, some false, some true, some true, some false, some true, some false, some true]).map (fun r => (r.1, r.2.obl, seenInT BR55 r.2 (s55 x P n c (i + 1) (VR55 v)) [0])) = some (.normal, pR_55 x P n c i, seenAsT BR55 (s55 x P n c (i + 1) (VR55 v)) [0] 1) := by kernel_rfl
theorem kX55 (x : MX) (P n c : Nat) (i : Nat) (v : VF) : (go55 KN l55 (s55 x P n c i v) [some false]).map (fun r => (r.1, r.2.obl, seenInT BX55 r.2 (s55 x P n c i (VX55 v)) [0])) = some (.exit 0, pX_55 x P n c i, seenAsT BX55 (s55 x P n c i (VX55 v)) [0] 1) := by kernel_rfl
theorem kF0_55 (x : MX) (P n c : Nat) (i : Nat) (v : VF) : (go55 KN l55 (s55 x P n c i v) [some true, some true, some true, some false, some true, some true, some false, some true, some true]).bind (fun r => (results1 Try.prog r.2 [.tmp 2]).map fun q => (r.1, q.2.obl, r.2.defers, oneOf q.1)) = some (.ret, pF0_55 x P n c i, [], .bool false) := by kernel_rfl
theorem kE0_55 (x : MX) (P n c : Nat) (i : Nat) (v : VF) : (go55 KN e55 (s55 x P n c i v) []).bind (fun r => (results1 Try.prog r.2 [.tmp 2]).map fun q => (r.1, q.2.obl, r.2.defers, oneOf q.1)) = some (.ret, pE0_55 x P n c i, [], .bool true) := by kernel_rfl
theorem okD55 (x : MX) (P n c : Nat) (i : Nat) (v : VF) : picOkT BD55 (z55 x P n c) (s55 x P n c i (VD55 v)) [0] = true := by kernel_rfl
theorem okR55 (x : MX) (P n c : Nat) (i : Nat) (v : VF) : picOkT BR55 (z55 x P n c) (s55 x P n c i (VR55 v)) [0] = true := by kernel_rfl
theorem okX55 (x : MX) (P n c : Nat) (i : Nat) (v : VF) : picOkT BX55 (z55 x P n c) (s55 x P n c i (VX55 v)) [0] = true := by kernel_rfl
theorem up55 (x : MX) (P n c : Nat) (Q_ : Exit → St → Prop) : upQ Try.prog none (z55 x P n c) [2, 3, 2, 0] b55 Q_ = fun e s => (fun e s => (e = .normal ∧ StepG Try.prog none (z55 x P n c) e55 s Q_) ∨ (e ≠ .normal ∧ Q_ e s)) (blockOut 0 e) s := by kernel_rfl
theorem rd55 {x : MX} {P n c : Nat} (hP : n ≤ x.CN P ∧ n ≤ 1000) : Rd Try.prog x.F 55 (a55 P n c) (.bool (riseE x P n)) := by
  obtain ⟨p1, p2⟩ := hP
  refine find_rd (way := [2, 3, 2, 0]) (pic := fun i v => s55 x P n c i v) (e := upC x P) (N := (n - 1)) (v0 := VD55 vU) (s0 := z55 x P n c) rfl fn55 rfl (fun Q_ h => StepG.downs pg KN_ok (kD55 x P n c) (trivial) (tm55_dead (VD55_dead vU_dead) lvD55) (h55_ok x P n c) rfl (okD55 x P n c 0 vU) h) (up55 x P n c) (fun i v hv hi he => ?_) (fun i v hv hi hp he => ?_) (fun v hv => ?_) (fun hall v hv => ?_) (VD55_dead vU_dead)
  · refine (StepG.stdT (s0 := z55 x P n c) (rd := none) pg KN_ok (kR55 x P n c i v) ?_ (show 1 ≤ 1 by decide) (tm55_dead (VR55_dead hv) lvR55) (h55_ok x P n c) rfl (okR55 x P n c (i + 1) v)).mono ?_
    · exact ⟨⟨⟨⟨⟨⟨⟨⟨trivial, decide_eq_true (by unfold nI; omega)⟩, by rw [IntKind.wrap_i64]; unfold nI; omega⟩, by unfold nI; omega⟩, by unfold nI; omega⟩, by unfold nI; omega⟩, by omega⟩, by unfold upC at he; simpa using he⟩, by rw [IntKind.wrap_i64]; unfold nI; omega⟩
    · rintro ex s_ ⟨rfl, rfl⟩
      exact ⟨rfl, _, VR55_dead hv, rfl⟩
  · rw [show riseE x P n = false by unfold riseE; rw [allB_no he hi]]
    exact StepG.ranV (s0 := z55 x P n c) (rd := none) pg KN_ok (kF0_55 x P n c i v) ⟨⟨⟨⟨⟨⟨⟨trivial, decide_eq_true (by unfold nI; omega)⟩, by rw [IntKind.wrap_i64]; unfold nI; omega⟩, by unfold nI; omega⟩, by unfold nI; omega⟩, by unfold nI; omega⟩, by omega⟩, by unfold upC at he; simpa using he⟩ (show 1 ≤ 1 by decide)
  · refine (StepG.stdT (s0 := z55 x P n c) (rd := none) pg KN_ok (kX55 x P n c (n - 1) v) ⟨trivial, decide_eq_false (by unfold nI; omega)⟩ (show 1 ≤ 1 by decide) (tm55_dead (VX55_dead hv) lvX55) (h55_ok x P n c) rfl (okX55 x P n c (n - 1) v)).mono ?_
    rintro ex s_ ⟨rfl, rfl⟩
    exact ⟨rfl, _, VX55_dead hv, rfl⟩
  · rw [show riseE x P n = true by unfold riseE; rw [allB_all hall]]
    exact StepG.ranV (s0 := z55 x P n c) (rd := none) pg KN_ok (kE0_55 x P n c (n - 1) v) trivial (show 1 ≤ 1 by decide)
noncomputable def rw55 (x : MX) (args : List Value) : Option (Value × Prop) := match args with
  | [.slice (some ⟨P, 0, some 1003⟩) n c] => some (.bool (riseE x P n), n ≤ x.CN P ∧ n ≤ 1000)
  | _ => none
theorem rw55_ok (x : MX) {args : List Value} {r : Value × Prop} (h : rw55 x args = some r) : flat r.1 = true ∧ args.all farV = true ∧ (r.2 → Rd Try.prog x.F 55 args r.1) := by
  unfold rw55 at h
  split at h
  · rename_i P n c
    cases h
    exact ⟨rfl, rfl, fun hp => rd55 hp⟩
  · cases h
noncomputable def TW4 (x : MX) (f : FuncId) (args : List Value) : Option (Value × Prop) := if f == 55 then rw55 x args else none
theorem TW4_ok (x : MX) (f : FuncId) (args : List Value) (r : Value × Prop) (h : TW4 x f args = some r) : flat r.1 = true ∧ args.all farV = true ∧ (r.2 → Rd Try.prog x.F f args r.1) := by
  unfold TW4 at h
  by_cases e55 : (f == 55) = true
  · have hf : f = 55 := by simpa using e55
    subst hf
    exact rw55_ok x h
  rw [if_neg e55] at h
  cases h
noncomputable def KW4 (x : MX) : Given := { Given.rds Given.nothing x.F (TW4 x) with fits := true }
theorem KW4_ok (x : MX) : GivenOk Try.prog (KW4 x) := frames_fits ((GivenOk.nothing _).rds (TW4_ok x)) true
def w62 (x : MX) (a : OV) : Bool := !riseE x a.P a.n
theorem k62 (x : MX) (a : OV) : ((mk Try.prog (KW4 x) 200).call 62 [a.v] (smSt 1 [some (.fam x.F)] [])).map (fun r => (r.1, r.2.obl)) = some (.bool (w62 x a), (True ∧ (x.F = x.F ∧ a.n ≤ x.CN a.P ∧ a.n ≤ 1000))) := by kernel_rfl
theorem rd62 {x : MX} {a : OV} (hA : a.n ≤ x.CN a.P ∧ a.n ≤ 1000) : Rd Try.prog x.F 62 [a.v] (.bool (w62 x a)) := Rd.run pg (KW4_ok x) (k62 x a) ⟨trivial, rfl, hA⟩ rfl
noncomputable def rw56 (x : MX) (args : List Value) : Option (Value × Prop) := match args with
  | [.agg z0] => (ovOf z0).bind fun u => some (.bool (w56 u), True)
  | _ => none
theorem rw56_ok (x : MX) {args : List Value} {r : Value × Prop} (h : rw56 x args = some r) : flat r.1 = true ∧ args.all farV = true ∧ (r.2 → Rd Try.prog x.F 56 args r.1) := by
  unfold rw56 at h
  split at h
  · rename_i z0
    rw [Option.bind_eq_some_iff] at h
    obtain ⟨u, hu, h⟩ := h
    cases h
    rw [ovOf_v hu]
    exact ⟨rfl, rfl, fun hp => rd56⟩
  · cases h
noncomputable def rw57 (x : MX) (args : List Value) : Option (Value × Prop) := match args with
  | [.agg z0] => (ovOf z0).bind fun u => some (.bool (w57 u), True)
  | _ => none
theorem rw57_ok (x : MX) {args : List Value} {r : Value × Prop} (h : rw57 x args = some r) : flat r.1 = true ∧ args.all farV = true ∧ (r.2 → Rd Try.prog x.F 57 args r.1) := by
  unfold rw57 at h
  split at h
  · rename_i z0
    rw [Option.bind_eq_some_iff] at h
    obtain ⟨u, hu, h⟩ := h
    cases h
    rw [ovOf_v hu]
    exact ⟨rfl, rfl, fun hp => rd57⟩
  · cases h
noncomputable def rw58 (x : MX) (args : List Value) : Option (Value × Prop) := match args with
  | [.agg z0] => (ovOf z0).bind fun u => some (.bool (w58 u), True)
  | _ => none
theorem rw58_ok (x : MX) {args : List Value} {r : Value × Prop} (h : rw58 x args = some r) : flat r.1 = true ∧ args.all farV = true ∧ (r.2 → Rd Try.prog x.F 58 args r.1) := by
  unfold rw58 at h
  split at h
  · rename_i z0
    rw [Option.bind_eq_some_iff] at h
    obtain ⟨u, hu, h⟩ := h
    cases h
    rw [ovOf_v hu]
    exact ⟨rfl, rfl, fun hp => rd58⟩
  · cases h
noncomputable def rw59 (x : MX) (args : List Value) : Option (Value × Prop) := match args with
  | [.agg z0] => (ovOf z0).bind fun u => some (.bool (w59 x u), u.n ≤ x.CN u.P ∧ u.n ≤ 9223372036854775807)
  | _ => none
theorem rw59_ok (x : MX) {args : List Value} {r : Value × Prop} (h : rw59 x args = some r) : flat r.1 = true ∧ args.all farV = true ∧ (r.2 → Rd Try.prog x.F 59 args r.1) := by
  unfold rw59 at h
  split at h
  · rename_i z0
    rw [Option.bind_eq_some_iff] at h
    obtain ⟨u, hu, h⟩ := h
    cases h
    rw [ovOf_v hu]
    exact ⟨rfl, rfl, fun hp => rd59 hp⟩
  · cases h
noncomputable def rw62 (x : MX) (args : List Value) : Option (Value × Prop) := match args with
  | [.agg z0] => (ovOf z0).bind fun u => some (.bool (w62 x u), u.n ≤ x.CN u.P ∧ u.n ≤ 1000)
  | _ => none
theorem rw62_ok (x : MX) {args : List Value} {r : Value × Prop} (h : rw62 x args = some r) : flat r.1 = true ∧ args.all farV = true ∧ (r.2 → Rd Try.prog x.F 62 args r.1) := by
  unfold rw62 at h
  split at h
  · rename_i z0
    rw [Option.bind_eq_some_iff] at h
    obtain ⟨u, hu, h⟩ := h
    cases h
    rw [ovOf_v hu]
    exact ⟨rfl, rfl, fun hp => rd62 hp⟩
  · cases h
noncomputable def TR (x : MX) (f : FuncId) (args : List Value) : Option (Value × Prop) := if f == 56 then rw56 x args else if f == 57 then rw57 x args else if f == 58 then rw58 x args else if f == 59 then rw59 x args else if f == 62 then rw62 x args else none
theorem TR_ok (x : MX) (f : FuncId) (args : List Value) (r : Value × Prop) (h : TR x f args = some r) : flat r.1 = true ∧ args.all farV = true ∧ (r.2 → Rd Try.prog x.F f args r.1) := by
  unfold TR at h
  by_cases e56 : (f == 56) = true
  · have hf : f = 56 := by simpa using e56
    subst hf
    exact rw56_ok x h
  rw [if_neg e56] at h
  by_cases e57 : (f == 57) = true
  · have hf : f = 57 := by simpa using e57
    subst hf
    exact rw57_ok x h
  rw [if_neg e57] at h
  by_cases e58 : (f == 58) = true
  · have hf : f = 58 := by simpa using e58
    subst hf
    exact rw58_ok x h
  rw [if_neg e58] at h
  by_cases e59 : (f == 59) = true
  · have hf : f = 59 := by simpa using e59
    subst hf
    exact rw59_ok x h
  rw [if_neg e59] at h
  by_cases e62 : (f == 62) = true
  · have hf : f = 62 := by simpa using e62
    subst hf
    exact rw62_ok x h
  rw [if_neg e62] at h
  cases h
noncomputable def KR (x : MX) : Given := { Given.rds Given.nothing x.F (TR x) with fits := true }
theorem KR_ok (x : MX) : GivenOk Try.prog (KR x) := frames_fits ((GivenOk.nothing _).rds (TR_ok x)) true
end
end ob
end Go.Proofs.Ytpfmilkddapfiaa
namespace Go.Proofs.Ytpfmilkddapfiaa
open Go.ChangeShapes Go.WideShapes Go.ChangeAt Go.RowKit Go.Cln
namespace ob
set_option linter.unusedVariables false
noncomputable section
def b30 : Code := ((Try.prog.funcs[30]?).bind (·.body)).getD .skip
theorem fn30 : (Try.prog.funcs[30]?).map (fun f => (f.body, f.results.toList, f.ntmps)) = some (some b30, [.tmp 2], 18) := by kernel_rfl
def unS : Code → Code
  | .scope c => c
  | c => c
def s30c : Code := unS (sndC b30)
theorem b30_eq : b30 = .seq (fstC b30) (.scope s30c) := by kernel_rfl
def l30 : Code := loopB Try.prog 30 0
def e30 : Code := sndC (sndC (sndC s30c))
noncomputable def z30 (x : MX) (a : OV) : St := { smSt 1 [some (.fam x.F)] [] with tmps := [a.v] ++ List.replicate 17 undef, defers := [] }
noncomputable def go30 (K : Given) (c : Code) (s : St) (o : List (Option Bool)) : Option (Exit × St) := (mk Try.prog K 300).code 30 none c { s with obl := True, orc := o }
noncomputable def gd30 (K : Given) (s : St) (o : List (Option Bool)) : Option (St × Code) := down (mk Try.prog K 300) 30 none [2, 2, 3, 2, 0] s30c { s with obl := True, orc := o }
noncomputable def q30a (x : MX) (a : OV) (l : List Value) : St := ⟨l, [], Tr.rebuild (g23 x a) 2, 2, 1, [], fun _ => false, True, []⟩
noncomputable def u30 (a : OV) : List Value := [a.v, .pointer (some ⟨1, 0, none⟩), junk, undef, undef, undef, undef, undef, undef, undef, undef, undef, undef, undef, undef, undef, undef, undef]
theorem k30a (x : MX) (a : OV) : (go30 KN (fstC b30) (z30 x a) []).map (fun r => (r.1, r.2.obl, seenInT allT r.2 (q30a x a (u30 a)) [0, 1])) = some (.normal, True, seenAsT allT (q30a x a (u30 a)) [0, 1] 2) := by kernel_rfl
theorem ok30a (x : MX) (a : OV) : picOkT allT (z30 x a) (q30a x a (u30 a)) [0, 1] = true := by kernel_rfl
noncomputable def tm30 (v : VF) (a : OV) (b : Bool) (i : Nat) : List Value := (a.v :: .pointer (some ⟨1, 0, none⟩) :: v 2 :: .bool b :: v 4 :: v 5 :: .slice (some ⟨2, 0, none⟩) 5 5 :: .int .i64 (nI 5) :: .int .i64 (nI i) :: vs v 9 9 [])
theorem tm30_dead {v : VF} {a : OV} {b : Bool} {i : Nat} {B : Nat → Bool} (h : ∀ i, DeadV (v i)) (hB : ∀ i, ((Nat.ble 0 i && Nat.ble i 1) || Nat.beq i 3 || (Nat.ble 6 i && Nat.ble i 8)) = true → B i = true) : deadT B 0 (tm30 v a b i) :=
  dl (hB 0 rfl) (dl (hB 1 rfl) (dn (h 2) (dl (hB 3 rfl) (dn (h 4) (dn (h 5) (dl (hB 6 rfl) (dl (hB 7 rfl) (dl (hB 8 rfl) (deadT_vs h 9 (trivial))))))))))
def WD30 (i : Nat) : Bool := Nat.beq i 2
noncomputable def VD30 (v : VF) : VF := fun i => match WD30 i with
  | true => junk
  | false => v i
def BD30 (i : Nat) : Bool := ((Nat.ble 0 i && Nat.ble i 1) || Nat.beq i 3 || (Nat.ble 6 i && Nat.ble i 8)) || WD30 i
theorem VD30_dead {v : VF} (h : ∀ i, DeadV (v i)) (i : Nat) : DeadV (VD30 v i) := jD (W := WD30) h i
theorem lvD30 (i : Nat) (h : ((Nat.ble 0 i && Nat.ble i 1) || Nat.beq i 3 || (Nat.ble 6 i && Nat.ble i 8)) = true) : BD30 i = true := jl h
def WR30 (i : Nat) : Bool := Nat.beq i 5 || (Nat.ble 9 i && Nat.ble i 13) || (Nat.ble 15 i && Nat.ble i 16)
noncomputable def VR30 (v : VF) : VF := fun i => match Nat.beq i 14 with
  | true => .agg #[junk, junk, junk, junk]
  | false => match WR30 i with
  | true => junk
  | false => v i
def BR30 (i : Nat) : Bool := ((Nat.ble 0 i && Nat.ble i 1) || Nat.beq i 3 || (Nat.ble 6 i && Nat.ble i 8)) || WR30 i || Nat.beq i 14
theorem VR30_dead {v : VF} (h : ∀ i, DeadV (v i)) (i : Nat) : DeadV (VR30 v i) := by
  unfold VR30
  split
  · exact ⟨rfl, fun _ => rfl, fun _ => rfl⟩
  split
  · exact DeadV.junk
  · exact h i
theorem lvR30 (i : Nat) (h : ((Nat.ble 0 i && Nat.ble i 1) || Nat.beq i 3 || (Nat.ble 6 i && Nat.ble i 8)) = true) : BR30 i = true := jl (jl h)
def WT30 (i : Nat) : Bool := Nat.beq i 5 || (Nat.ble 9 i && Nat.ble i 13) || Nat.beq i 15
noncomputable def VT30 (v : VF) : VF := fun i => match Nat.beq i 14 with
  | true => .agg #[junk, junk, junk, junk]
  | false => match WT30 i with
  | true => junk
  | false => v i
def BT30 (i : Nat) : Bool := ((Nat.ble 0 i && Nat.ble i 1) || Nat.beq i 3 || (Nat.ble 6 i && Nat.ble i 8)) || WT30 i || Nat.beq i 14
theorem VT30_dead {v : VF} (h : ∀ i, DeadV (v i)) (i : Nat) : DeadV (VT30 v i) := by
  unfold VT30
  split
  · exact ⟨rfl, fun _ => rfl, fun _ => rfl⟩
  split
  · exact DeadV.junk
  · exact h i
theorem lvT30 (i : Nat) (h : ((Nat.ble 0 i && Nat.ble i 1) || Nat.beq i 3 || (Nat.ble 6 i && Nat.ble i 8)) = true) : BT30 i = true := jl (jl h)
def WX30 (i : Nat) : Bool := Nat.beq i 9
noncomputable def VX30 (v : VF) : VF := fun i => match WX30 i with
  | true => junk
  | false => v i
def BX30 (i : Nat) : Bool := ((Nat.ble 0 i && Nat.ble i 1) || Nat.beq i 3 || (Nat.ble 6 i && Nat.ble i 8)) || WX30 i
theorem VX30_dead {v : VF} (h : ∀ i, DeadV (v i)) (i : Nat) : DeadV (VX30 v i) := jD (W := WX30) h i
theorem lvX30 (i : Nat) (h : ((Nat.ble 0 i && Nat.ble i 1) || Nat.beq i 3 || (Nat.ble 6 i && Nat.ble i 8)) = true) : BX30 i = true := jl h
noncomputable def h30 (x : MX) (a : OV) : Nat → Option Ob := fun j => match j with
  | 0 => some (.fam x.F)
  | 1 => some (.cells (.lit a.l) 26)
  | 2 => some (.cells (.lit [.func (.func 56) #[] #[], .func (.func 57) #[] #[], .func (.func 58) #[] #[], .func (.func 59) #[] #[], .func (.func 62) #[] #[]]) 27)
  | _ => none
theorem h30_ok (x : MX) (a : OV) : Go.Cln.RowsIn (h30 x a) := by
  intro b n' w' g' t h
  unfold h30 at h
  split at h <;> cases h
noncomputable def s30 (x : MX) (a : OV) (b : Bool) (i : Nat) (v : VF) : St := ⟨tm30 v a b i, [], Tr.rebuild (h30 x a) 3, 3, 1, [], fun _ => false, True, []⟩
theorem k30d (x : MX) (a : OV) : (gd30 KN (q30a x a (u30 a)) []).map (fun r => (r.2, r.1.obl, seenInT BD30 r.1 (s30 x a true 0 (VD30 vU)) [0, 1, 2])) = some (.loop l30, True, seenAsT BD30 (s30 x a true 0 (VD30 vU)) [0, 1, 2] 3) := by kernel_rfl
theorem up30 (x : MX) (a : OV) (Q_ : Exit → St → Prop) : upQ Try.prog none (z30 x a) [2, 2, 3, 2, 0] s30c Q_ = fun e s => (fun e s => (e = .normal ∧ StepG Try.prog none (z30 x a) e30 s Q_) ∨ (e ≠ .normal ∧ Q_ e s)) (blockOut 0 e) s := by kernel_rfl
def fW (x : MX) (a : OV) (i : Nat) : Bool := match i with
  | 0 => w56 a
  | 1 => w57 a
  | 2 => w58 a
  | 3 => w59 x a
  | _ => w62 x a
def rightE (x : MX) (a : OV) : Bool := allB (fun i => !fW x a i) 5
theorem kR30_0 (x : MX) (a : OV) (v : VF) : (go30 (KR x) l30 (s30 x a true 0 v) [none, none, some false]).map (fun r => (r.1, r.2.obl, seenInT BR30 r.2 (s30 x a true 1 (VR30 v)) [0, 1, 2])) = some (.normal, (True ∧ (x.F = x.F ∧ True)) ∧ fW x a 0 = false, seenAsT BR30 (s30 x a true 1 (VR30 v)) [0, 1, 2] 3) := by kernel_rfl
theorem kT30_0 (x : MX) (a : OV) (v : VF) : (go30 (KR x) l30 (s30 x a true 0 v) [none, none, some true]).map (fun r => (r.1, r.2.obl, seenInT BT30 r.2 (s30 x a false 0 (VT30 v)) [0, 1, 2])) = some (.exit 0, (True ∧ (x.F = x.F ∧ True)) ∧ fW x a 0 = true, seenAsT BT30 (s30 x a false 0 (VT30 v)) [0, 1, 2] 3) := by kernel_rfl
theorem kR30_1 (x : MX) (a : OV) (v : VF) : (go30 (KR x) l30 (s30 x a true 1 v) [none, none, some false]).map (fun r => (r.1, r.2.obl, seenInT BR30 r.2 (s30 x a true 2 (VR30 v)) [0, 1, 2])) = some (.normal, (True ∧ (x.F = x.F ∧ True)) ∧ fW x a 1 = false, seenAsT BR30 (s30 x a true 2 (VR30 v)) [0, 1, 2] 3) := by kernel_rfl
theorem kT30_1 (x : MX) (a : OV) (v : VF) : (go30 (KR x) l30 (s30 x a true 1 v) [none, none, some true]).map (fun r => (r.1, r.2.obl, seenInT BT30 r.2 (s30 x a false 1 (VT30 v)) [0, 1, 2])) = some (.exit 0, (True ∧ (x.F = x.F ∧ True)) ∧ fW x a 1 = true, seenAsT BT30 (s30 x a false 1 (VT30 v)) [0, 1, 2] 3) := by kernel_rfl
theorem kR30_2 (x : MX) (a : OV) (v : VF) : (go30 (KR x) l30 (s30 x a true 2 v) [none, none, some false]).map (fun r => (r.1, r.2.obl, seenInT BR30 r.2 (s30 x a true 3 (VR30 v)) [0, 1, 2])) = some (.normal, (True ∧ (x.F = x.F ∧ True)) ∧ fW x a 2 = false, seenAsT BR30 (s30 x a true 3 (VR30 v)) [0, 1, 2] 3) := by kernel_rfl
theorem kT30_2 (x : MX) (a : OV) (v : VF) : (go30 (KR x) l30 (s30 x a true 2 v) [none, none, some true]).map (fun r => (r.1, r.2.obl, seenInT BT30 r.2 (s30 x a false 2 (VT30 v)) [0, 1, 2])) = some (.exit 0, (True ∧ (x.F = x.F ∧ True)) ∧ fW x a 2 = true, seenAsT BT30 (s30 x a false 2 (VT30 v)) [0, 1, 2] 3) := by kernel_rfl
theorem kR30_3 (x : MX) (a : OV) (v : VF) : (go30 (KR x) l30 (s30 x a true 3 v) [none, none, some false]).map (fun r => (r.1, r.2.obl, seenInT BR30 r.2 (s30 x a true 4 (VR30 v)) [0, 1, 2])) = some (.normal, (True ∧ (x.F = x.F ∧ a.n ≤ x.CN a.P ∧ a.n ≤ 9223372036854775807)) ∧ fW x a 3 = false, seenAsT BR30 (s30 x a true 4 (VR30 v)) [0, 1, 2] 3) := by kernel_rfl
theorem kT30_3 (x : MX) (a : OV) (v : VF) : (go30 (KR x) l30 (s30 x a true 3 v) [none, none, some true]).map (fun r => (r.1, r.2.obl, seenInT BT30 r.2 (s30 x a false 3 (VT30 v)) [0, 1, 2])) = some (.exit 0, (True ∧ (x.F = x.F ∧ a.n ≤ x.CN a.P ∧ a.n ≤ 9223372036854775807)) ∧ fW x a 3 = true, seenAsT BT30 (s30 x a false 3 (VT30 v)) [0, 1, 2] 3) := by kernel_rfl
theorem kR30_4 (x : MX) (a : OV) (v : VF) : (go30 (KR x) l30 (s30 x a true 4 v) [none, none, some false]).map (fun r => (r.1, r.2.obl, seenInT BR30 r.2 (s30 x a true 5 (VR30 v)) [0, 1, 2])) = some (.normal, (True ∧ (x.F = x.F ∧ a.n ≤ x.CN a.P ∧ a.n ≤ 1000)) ∧ fW x a 4 = false, seenAsT BR30 (s30 x a true 5 (VR30 v)) [0, 1, 2] 3) := by kernel_rfl
theorem kT30_4 (x : MX) (a : OV) (v : VF) : (go30 (KR x) l30 (s30 x a true 4 v) [none, none, some true]).map (fun r => (r.1, r.2.obl, seenInT BT30 r.2 (s30 x a false 4 (VT30 v)) [0, 1, 2])) = some (.exit 0, (True ∧ (x.F = x.F ∧ a.n ≤ x.CN a.P ∧ a.n ≤ 1000)) ∧ fW x a 4 = true, seenAsT BT30 (s30 x a false 4 (VT30 v)) [0, 1, 2] 3) := by kernel_rfl
theorem kX30 (x : MX) (a : OV) (v : VF) : (go30 KN l30 (s30 x a true 5 v) []).map (fun r => (r.1, r.2.obl, seenInT BX30 r.2 (s30 x a true 5 (VX30 v)) [0, 1, 2])) = some (.exit 0, True, seenAsT BX30 (s30 x a true 5 (VX30 v)) [0, 1, 2] 3) := by kernel_rfl
theorem kE30 (x : MX) (a : OV) (b : Bool) (i : Nat) (v : VF) : (go30 KN e30 (s30 x a b i v) []).bind (fun r => (results1 Try.prog r.2 [.tmp 2]).map fun q => (r.1, q.2.obl, r.2.defers, oneOf q.1)) = some (.ret, True, [], .bool b) := by kernel_rfl
theorem okD30 (x : MX) (a : OV) (b : Bool) (i : Nat) (v : VF) : picOkT BD30 (z30 x a) (s30 x a b i (VD30 v)) [0, 1, 2] = true := by kernel_rfl
theorem okR30 (x : MX) (a : OV) (b : Bool) (i : Nat) (v : VF) : picOkT BR30 (z30 x a) (s30 x a b i (VR30 v)) [0, 1, 2] = true := by kernel_rfl
theorem okT30 (x : MX) (a : OV) (b : Bool) (i : Nat) (v : VF) : picOkT BT30 (z30 x a) (s30 x a b i (VT30 v)) [0, 1, 2] = true := by kernel_rfl
theorem okX30 (x : MX) (a : OV) (b : Bool) (i : Nat) (v : VF) : picOkT BX30 (z30 x a) (s30 x a b i (VX30 v)) [0, 1, 2] = true := by kernel_rfl
theorem rd30 {x : MX} {a : OV} (hA : a.n ≤ x.CN a.P ∧ a.n ≤ 1000) : Rd Try.prog x.F 30 [a.v] (.bool (rightE x a)) := by
  cases hf : Try.prog.funcs[30]? with
  | none => have := fn30; rw [hf] at this; cases this
  | some fn =>
  have hfn := fn30
  rw [hf] at hfn
  simp only [Option.map_some, Option.some.injEq, Prod.mk.injEq] at hfn
  obtain ⟨h1, h2, h3⟩ := hfn
  refine Rd.ofG hf h1 h2 rfl ?_
  rw [h3]
  show StepG Try.prog none (z30 x a) b30 (z30 x a) _
  rw [b30_eq]
  have hA2 : a.n ≤ x.CN a.P ∧ a.n ≤ 9223372036854775807 := ⟨hA.1, by omega⟩
  refine StepG.seq ((StepG.stdT (rd := none) pg KN_ok (k30a x a) trivial (Nat.le_refl 1) (deadT_at _) (g23_ok x a) rfl (ok30a x a)).mono ?_)
  rintro e s ⟨rfl, rfl⟩
  refine .inl ⟨rfl, StepG.scope ?_⟩
  refine StepG.downs pg KN_ok (k30d x a) trivial (tm30_dead (VD30_dead vU_dead) lvD30) (h30_ok x a) rfl (okD30 x a true 0 vU) ?_
  rw [up30]
  have fin : ∀ (b : Bool) (i : Nat) (v : VF), rightE x a = b → StepG Try.prog none (z30 x a) e30 (s30 x a b i v) fun e s' => (∀ l, e ≠ .goto l) ∧ (leaves? e = true ∧ s'.defers = [] ∧ ResV Try.prog [.tmp 2] (.bool (rightE x a)) s') := by
    intro b i v hb
    rw [hb]
    refine (StepG.ranV (s0 := z30 x a) (rd := none) pg KN_ok (kE30 x a b i v) trivial (show 1 ≤ 3 by decide)).mono ?_
    rintro e s ⟨rfl, h1, h2⟩
    exact ⟨(fun l h => by cases h), rfl, h1, h2⟩
  refine (findLoop (P := Try.prog) (rd := none) (s0 := z30 x a) (c := l30) (id := 0) (pic := fun i v => s30 x a true i v) (N := 5) (e := fun i => !fW x a i) (QD := fun ex s => ex = .exit 0 ∧ rightE x a = false ∧ ∃ i v, s = s30 x a false i v) (v0 := VD30 vU) (fun i v hv hi he => ?_) (fun i v hv hi hp he => ?_) (fun v hv => ?_) (VD30_dead vU_dead)).mono ?_
  · have he' : fW x a i = false := by simpa using he
    rcases i with _ | _ | _ | _ | _ | i
    · refine (StepG.stdT (s0 := z30 x a) (rd := none) pg (KR_ok x) (kR30_0 x a v) ⟨⟨trivial, rfl, trivial⟩, he'⟩ (show 1 ≤ 3 by decide) (tm30_dead (VR30_dead hv) lvR30) (h30_ok x a) rfl (okR30 x a true 1 v)).mono ?_
      rintro e s ⟨rfl, rfl⟩
      exact ⟨rfl, VR30 v, VR30_dead hv, rfl⟩
    · refine (StepG.stdT (s0 := z30 x a) (rd := none) pg (KR_ok x) (kR30_1 x a v) ⟨⟨trivial, rfl, trivial⟩, he'⟩ (show 1 ≤ 3 by decide) (tm30_dead (VR30_dead hv) lvR30) (h30_ok x a) rfl (okR30 x a true 2 v)).mono ?_
      rintro e s ⟨rfl, rfl⟩
      exact ⟨rfl, VR30 v, VR30_dead hv, rfl⟩
    · refine (StepG.stdT (s0 := z30 x a) (rd := none) pg (KR_ok x) (kR30_2 x a v) ⟨⟨trivial, rfl, trivial⟩, he'⟩ (show 1 ≤ 3 by decide) (tm30_dead (VR30_dead hv) lvR30) (h30_ok x a) rfl (okR30 x a true 3 v)).mono ?_
      rintro e s ⟨rfl, rfl⟩
      exact ⟨rfl, VR30 v, VR30_dead hv, rfl⟩
    · refine (StepG.stdT (s0 := z30 x a) (rd := none) pg (KR_ok x) (kR30_3 x a v) ⟨⟨trivial, rfl, hA2⟩, he'⟩ (show 1 ≤ 3 by decide) (tm30_dead (VR30_dead hv) lvR30) (h30_ok x a) rfl (okR30 x a true 4 v)).mono ?_
      rintro e s ⟨rfl, rfl⟩
      exact ⟨rfl, VR30 v, VR30_dead hv, rfl⟩
    · refine (StepG.stdT (s0 := z30 x a) (rd := none) pg (KR_ok x) (kR30_4 x a v) ⟨⟨trivial, rfl, hA⟩, he'⟩ (show 1 ≤ 3 by decide) (tm30_dead (VR30_dead hv) lvR30) (h30_ok x a) rfl (okR30 x a true 5 v)).mono ?_
      rintro e s ⟨rfl, rfl⟩
      exact ⟨rfl, VR30 v, VR30_dead hv, rfl⟩
    · omega
  · have he' : fW x a i = true := by simpa using he
    have hr : rightE x a = false := allB_no he hi
    rcases i with _ | _ | _ | _ | _ | i
    · refine (StepG.stdT (s0 := z30 x a) (rd := none) pg (KR_ok x) (kT30_0 x a v) ⟨⟨trivial, rfl, trivial⟩, he'⟩ (show 1 ≤ 3 by decide) (tm30_dead (VT30_dead hv) lvT30) (h30_ok x a) rfl (okT30 x a false 0 v)).mono ?_
      rintro e s ⟨rfl, rfl⟩
      exact ⟨(by intro h; cases h), rfl, hr, _, _, rfl⟩
    · refine (StepG.stdT (s0 := z30 x a) (rd := none) pg (KR_ok x) (kT30_1 x a v) ⟨⟨trivial, rfl, trivial⟩, he'⟩ (show 1 ≤ 3 by decide) (tm30_dead (VT30_dead hv) lvT30) (h30_ok x a) rfl (okT30 x a false 1 v)).mono ?_
      rintro e s ⟨rfl, rfl⟩
      exact ⟨(by intro h; cases h), rfl, hr, _, _, rfl⟩
    · refine (StepG.stdT (s0 := z30 x a) (rd := none) pg (KR_ok x) (kT30_2 x a v) ⟨⟨trivial, rfl, trivial⟩, he'⟩ (show 1 ≤ 3 by decide) (tm30_dead (VT30_dead hv) lvT30) (h30_ok x a) rfl (okT30 x a false 2 v)).mono ?_
      rintro e s ⟨rfl, rfl⟩
      exact ⟨(by intro h; cases h), rfl, hr, _, _, rfl⟩
    · refine (StepG.stdT (s0 := z30 x a) (rd := none) pg (KR_ok x) (kT30_3 x a v) ⟨⟨trivial, rfl, hA2⟩, he'⟩ (show 1 ≤ 3 by decide) (tm30_dead (VT30_dead hv) lvT30) (h30_ok x a) rfl (okT30 x a false 3 v)).mono ?_
      rintro e s ⟨rfl, rfl⟩
      exact ⟨(by intro h; cases h), rfl, hr, _, _, rfl⟩
    · refine (StepG.stdT (s0 := z30 x a) (rd := none) pg (KR_ok x) (kT30_4 x a v) ⟨⟨trivial, rfl, hA⟩, he'⟩ (show 1 ≤ 3 by decide) (tm30_dead (VT30_dead hv) lvT30) (h30_ok x a) rfl (okT30 x a false 4 v)).mono ?_
      rintro e s ⟨rfl, rfl⟩
      exact ⟨(by intro h; cases h), rfl, hr, _, _, rfl⟩
    · omega
  · refine (StepG.stdT (s0 := z30 x a) (rd := none) pg KN_ok (kX30 x a v) trivial (show 1 ≤ 3 by decide) (tm30_dead (VX30_dead hv) lvX30) (h30_ok x a) rfl (okX30 x a true 5 v)).mono ?_
    rintro e s ⟨rfl, rfl⟩
    exact ⟨rfl, VX30 v, VX30_dead hv, rfl⟩
  · rintro ex s (⟨rfl, ha, v', h4, rfl⟩ | ⟨_, rfl, hr, i, v', rfl⟩)
    · exact .inl ⟨rfl, fin true 5 v' (allB_all ha)⟩
    · exact .inl ⟨rfl, fin false i v' hr⟩
end
end ob
end Go.Proofs.Ytpfmilkddapfiaa
