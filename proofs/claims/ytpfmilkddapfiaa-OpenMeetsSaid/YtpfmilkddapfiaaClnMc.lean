/- Read off the code by the clean reading. -/
import Derived.Test.YtpfmilkddapfiaaClnMb
import Derived.Test.YtpfmilkddapfiaaClnQd
set_option linter.unusedVariables false
set_option linter.unusedSimpArgs false
set_option linter.deprecated false
set_option maxRecDepth 100000
namespace Go.Proofs.Ytpfmilkddapfiaa
open Go.ChangeShapes Go.WideShapes Go.ChangeAt Go.RowKit Go.Cln
namespace ob
set_option linter.unusedVariables false
noncomputable section
def isntC (x : MX) (w : Int) (P i : Nat) : Bool := !(x.CK P (ix2 i) == w)
def b41 : Code := ((Try.prog.funcs[41]?).bind (·.body)).getD .skip
def l41 : Code := loopB Try.prog 41 0
def e41 : Code := dropC 2 b41
theorem fn41 : (Try.prog.funcs[41]?).map (fun f => (f.body, f.results.toList, f.ntmps)) = some (some b41, [.tmp 4], 19) := by kernel_rfl
noncomputable abbrev a41 (w : Int) (P n c : Nat) : List Value := [PC P n c, .func (.func 42) #[] #[.pointer (some ⟨1, 0, none⟩)]]
noncomputable def z41 (x : MX) (w : Int) (P n c : Nat) : St := { smSt 2 (H2 x.F [.int .u8 w] 5) [] with tmps := a41 w P n c ++ List.replicate (19 - (a41 w P n c).length) undef, defers := [] }
noncomputable def tm41 (v : VF) (w : Int) (P n c : Nat) (i : Nat) : List Value := (PC P n c :: .func (.func 42) #[] #[.pointer (some ⟨1, 0, none⟩)] :: vs v 2 5 (.int .i64 (nI n) :: .int .i64 (nI i) :: vs v 9 10 []))
theorem tm41_dead {v : VF} {w : Int} {P n c : Nat} {i : Nat} {B : Nat → Bool} (h : ∀ i, DeadV (v i)) (hB : ∀ i, ((Nat.ble 0 i && Nat.ble i 1) || (Nat.ble 7 i && Nat.ble i 8)) = true → B i = true) : deadT B 0 (tm41 v w P n c i) :=
  dl (hB 0 rfl) (dl (hB 1 rfl) (deadT_vs h 5 (dl (hB 7 rfl) (dl (hB 8 rfl) (deadT_vs h 10 (trivial))))))
noncomputable def h41 (x : MX) (w : Int) (P n c : Nat) : Nat → Option Ob := fun i => match i with
  | 0 => some (.fam x.F)
  | 1 => some (.cells (.lit [.int .u8 w]) 5)
  | _ => none
theorem h41_ok (x : MX) (w : Int) (P n c : Nat) : Go.Cln.RowsIn (h41 x w P n c) := by
  intro b n' w' g' t h
  unfold h41 at h
  split at h <;> first | (cases h; done) | cases h
noncomputable def s41 (x : MX) (w : Int) (P n c : Nat) (i : Nat) (v : VF) : St := ⟨tm41 v w P n c i, [], Tr.rebuild (h41 x w P n c) 2, 2, 2, [], fun _ => false, True, []⟩
noncomputable def go41 (K : Given) (c : Code) (s : St) (o : List (Option Bool)) : Option (Exit × St) := (mk Try.prog K 200).code 41 none c { s with obl := True, orc := o }
noncomputable def gd41 (K : Given) (s : St) (o : List (Option Bool)) : Option (St × Code) := down (mk Try.prog K 200) 41 none [2, 3, 2, 0] b41 { s with obl := True, orc := o }
def WD41 (i : Nat) : Bool := Nat.beq i 4 || Nat.beq i 6
noncomputable def VD41 (v : VF) : VF := fun i => match WD41 i with
  | true => junk
  | false => v i
def BD41 (i : Nat) : Bool := ((Nat.ble 0 i && Nat.ble i 1) || (Nat.ble 7 i && Nat.ble i 8)) || WD41 i
theorem VD41_dead {v : VF} (h : ∀ i, DeadV (v i)) (i : Nat) : DeadV (VD41 v i) := jD (W := WD41) h i
theorem lvD41 (i : Nat) (h : ((Nat.ble 0 i && Nat.ble i 1) || (Nat.ble 7 i && Nat.ble i 8)) = true) : BD41 i = true := jl h
def WR41 (i : Nat) : Bool := Nat.beq i 5 || (Nat.ble 9 i && Nat.ble i 14) || Nat.beq i 16 || Nat.beq i 18
noncomputable def VR41 (v : VF) : VF := fun i => match Nat.beq i 15 with
  | true => .agg #[junk, junk]
  | false => match WR41 i with
  | true => junk
  | false => v i
def BR41 (i : Nat) : Bool := ((Nat.ble 0 i && Nat.ble i 1) || (Nat.ble 7 i && Nat.ble i 8)) || WR41 i || Nat.beq i 15
theorem VR41_dead {v : VF} (h : ∀ i, DeadV (v i)) (i : Nat) : DeadV (VR41 v i) := by
  unfold VR41
  split
  · exact ⟨rfl, fun _ => rfl, fun _ => rfl⟩
  split
  · exact DeadV.junk
  · exact h i
theorem lvR41 (i : Nat) (h : ((Nat.ble 0 i && Nat.ble i 1) || (Nat.ble 7 i && Nat.ble i 8)) = true) : BR41 i = true := jl (jl h)
def WX41 (i : Nat) : Bool := Nat.beq i 9
noncomputable def VX41 (v : VF) : VF := fun i => match WX41 i with
  | true => junk
  | false => v i
def BX41 (i : Nat) : Bool := ((Nat.ble 0 i && Nat.ble i 1) || (Nat.ble 7 i && Nat.ble i 8)) || WX41 i
theorem VX41_dead {v : VF} (h : ∀ i, DeadV (v i)) (i : Nat) : DeadV (VX41 v i) := jD (W := WX41) h i
theorem lvX41 (i : Nat) (h : ((Nat.ble 0 i && Nat.ble i 1) || (Nat.ble 7 i && Nat.ble i 8)) = true) : BX41 i = true := jl h
def pD_41 (x : MX) (w : Int) (P n c : Nat) (i : Nat) : Prop := True
def pR_41 (x : MX) (w : Int) (P n c : Nat) (i : Nat) : Prop := (((((True ∧ decide (nI i < nI n) = true) ∧ 0 ≤ nI i ∧ nI i < nI n) ∧ ((0 + i * 2) % 2 = 0 ∧ (0 + i * 2) / 2 < x.CN P)) ∧ (x.CK P (ix2 i) == w) = false) ∧ IntKind.i64.wrap (nI i + 1) = nI i + 1)
def pX_41 (x : MX) (w : Int) (P n c : Nat) (i : Nat) : Prop := (True ∧ decide (nI i < nI n) = false)
def pF0_41 (x : MX) (w : Int) (P n c : Nat) (i : Nat) : Prop := ((((True ∧ decide (nI i < nI n) = true) ∧ 0 ≤ nI i ∧ nI i < nI n) ∧ ((0 + i * 2) % 2 = 0 ∧ (0 + i * 2) / 2 < x.CN P)) ∧ (x.CK P (ix2 i) == w) = true)
def pE0_41 (x : MX) (w : Int) (P n c : Nat) (i : Nat) : Prop := True
theorem kD41 (x : MX) (w : Int) (P n c : Nat) : (gd41 KN (z41 x w P n c) []).map (fun r => (r.2, r.1.obl, seenInT BD41 r.1 (s41 x w P n c 0 (VD41 vU)) [0, 1])) = some (.loop l41, pD_41 x w P n c 0, seenAsT BD41 (s41 x w P n c 0 (VD41 vU)) [0, 1] 2) := by kernel_rfl
theorem kR41 (x : MX) (w : Int) (P n c : Nat) (i : Nat) (v : VF) : (go41 KN l41 (s41 x w P n c i v) [some true, some true, some false, some true, some false, some true]).map (fun r => (r.1, r.2.obl, seenInT BR41 r.2 (s41 x w P n c (i + 1) (VR41 v)) [0, 1])) = some (.normal, pR_41 x w P n c i, seenAsT BR41 (s41 x w P n c (i + 1) (VR41 v)) [0, 1] 3) := by kernel_rfl
theorem kX41 (x : MX) (w : Int) (P n c : Nat) (i : Nat) (v : VF) : (go41 KN l41 (s41 x w P n c i v) [some false]).map (fun r => (r.1, r.2.obl, seenInT BX41 r.2 (s41 x w P n c i (VX41 v)) [0, 1])) = some (.exit 0, pX_41 x w P n c i, seenAsT BX41 (s41 x w P n c i (VX41 v)) [0, 1] 2) := by kernel_rfl
theorem kF0_41 (x : MX) (w : Int) (P n c : Nat) (i : Nat) (v : VF) : (go41 KN l41 (s41 x w P n c i v) [some true, some true, some false, some true, some true]).bind (fun r => (results1 Try.prog r.2 [.tmp 4]).map fun q => (r.1, q.2.obl, r.2.defers, oneOf q.1)) = some (.ret, pF0_41 x w P n c i, [], .int .i64 (nI i)) := by kernel_rfl
theorem kE0_41 (x : MX) (w : Int) (P n c : Nat) (i : Nat) (v : VF) : (go41 KN e41 (s41 x w P n c i v) []).bind (fun r => (results1 Try.prog r.2 [.tmp 4]).map fun q => (r.1, q.2.obl, r.2.defers, oneOf q.1)) = some (.ret, pE0_41 x w P n c i, [], .int .i64 (-1)) := by kernel_rfl
theorem okD41 (x : MX) (w : Int) (P n c : Nat) (i : Nat) (v : VF) : picOkT BD41 (z41 x w P n c) (s41 x w P n c i (VD41 v)) [0, 1] = true := by kernel_rfl
theorem okR41 (x : MX) (w : Int) (P n c : Nat) (i : Nat) (v : VF) : picOkT BR41 (z41 x w P n c) (s41 x w P n c i (VR41 v)) [0, 1] = true := by kernel_rfl
theorem okX41 (x : MX) (w : Int) (P n c : Nat) (i : Nat) (v : VF) : picOkT BX41 (z41 x w P n c) (s41 x w P n c i (VX41 v)) [0, 1] = true := by kernel_rfl
theorem up41 (x : MX) (w : Int) (P n c : Nat) (Q_ : Exit → St → Prop) : upQ Try.prog none (z41 x w P n c) [2, 3, 2, 0] b41 Q_ = fun e s => (fun e s => (e = .normal ∧ StepG Try.prog none (z41 x w P n c) e41 s Q_) ∨ (e ≠ .normal ∧ Q_ e s)) (blockOut 0 e) s := by kernel_rfl
theorem rd41 {x : MX} {w : Int} {P n c : Nat} (hP : capOk x P n) : RdB Try.prog x.F [.int .u8 w] 5 41 (a41 w P n c) (.int .i64 (whereI (isntC x w P) n)) := by
  obtain ⟨p1, p2, p3⟩ := hP
  refine find_rdB (way := [2, 3, 2, 0]) (pic := fun i v => s41 x w P n c i v) (e := isntC x w P) (N := n) (v0 := VD41 vU) (s0 := z41 x w P n c) rfl fn41 rfl (fun Q_ h => StepG.downs pg KN_ok (kD41 x w P n c) (trivial) (tm41_dead (w := w) (VD41_dead vU_dead) lvD41) (h41_ok x w P n c) rfl (okD41 x w P n c 0 vU) h) (up41 x w P n c) (fun i v hv hi he => ?_) (fun i v hv hi hp he => ?_) (fun v hv => ?_) (fun hall v hv => ?_) (VD41_dead vU_dead)
  · refine (StepG.stdT (s0 := z41 x w P n c) (rd := none) pg KN_ok (kR41 x w P n c i v) ?_ (show 2 ≤ 2 by decide) (tm41_dead (w := w) (VR41_dead hv) lvR41) (h41_ok x w P n c) rfl (okR41 x w P n c (i + 1) v)).mono ?_
    · exact ⟨⟨⟨⟨⟨trivial, decide_eq_true (by unfold nI; omega)⟩, by unfold nI; omega⟩, by omega⟩, by unfold isntC at he; simpa using he⟩, by rw [IntKind.wrap_i64]; unfold nI; omega⟩
    · rintro ex s_ ⟨rfl, rfl⟩
      exact ⟨rfl, _, VR41_dead hv, rfl⟩
  · rw [whereI_at hi hp he]
    exact StepG.ranV (s0 := z41 x w P n c) (rd := none) pg KN_ok (kF0_41 x w P n c i v) ⟨⟨⟨⟨trivial, decide_eq_true (by unfold nI; omega)⟩, by unfold nI; omega⟩, by omega⟩, by unfold isntC at he; simpa using he⟩ (show 2 ≤ 2 by decide)
  · refine (StepG.stdT (s0 := z41 x w P n c) (rd := none) pg KN_ok (kX41 x w P n c n v) ⟨trivial, decide_eq_false (by unfold nI; omega)⟩ (show 2 ≤ 2 by decide) (tm41_dead (w := w) (VX41_dead hv) lvX41) (h41_ok x w P n c) rfl (okX41 x w P n c n v)).mono ?_
    rintro ex s_ ⟨rfl, rfl⟩
    exact ⟨rfl, _, VX41_dead hv, rfl⟩
  · rw [whereI_all hall]
    exact StepG.ranV (s0 := z41 x w P n c) (rd := none) pg KN_ok (kE0_41 x w P n c n v) trivial (show 2 ≤ 2 by decide)
noncomputable def T41 (x : MX) (v : Int) (f : FuncId) (args : List Value) (s : St) : Option (Value × Prop) := if f == 41 then (match args with
  | [.slice (some ⟨P, 0, some 1003⟩) n c, .func (.func 42) ⟨[]⟩ ⟨[.pointer (some ⟨bx, 0, none⟩)]⟩] => (match s.heap.get bx with
    | some (.cells (.lit [.int .u8 w]) 5) => (match s.heap.get 0 with
      | some (.fam G) => some (.int .i64 v, G = x.F ∧ capOk x P n ∧ whereI (isntC x w P) n = v)
      | _ => none)
    | _ => none)
  | _ => none) else none
theorem VR.clo {N N' : Nat → Prop} {ρ ρ' : Nat → PB} {bx b2 : Nat} {w : Value} (h : VR N ρ (.func (.func 42) #[] #[.pointer (some ⟨bx, 0, none⟩)]) w) (hN : N' b2) (e : ρ' b2 = ρ bx) : VR N' ρ' (.func (.func 42) #[] #[.pointer (some ⟨b2, 0, none⟩)]) w := by
  cases h with
  | same h => simp [flat0] at h
  | fn h1 h2 h3 h4 =>
    refine .fn h1 (fun i v u hv => by simp at hv) h3 (fun i v u hv hu => ?_)
    rcases i with _ | i
    · have hv' : v = .pointer (some ⟨b2, 0, none⟩) := by simpa using hv.symm
      subst hv'
      have := h4 0 (.pointer (some ⟨bx, 0, none⟩)) u (by simp) hu
      cases this with
      | same h => simp [flat0] at h
      | ptr _ => rw [← e]; exact .ptr hN
    · simp at hv
theorem T41_ok (x : MX) (v : Int) (f : FuncId) (args : List Value) (s : St) (r : Value × Prop) (h : T41 x v f args s = some r) : flat r.1 = true ∧ (r.2 → ∀ (ρ : Nat → PB) (w : World) (args' : List Value), Hs s ρ w → VL (Dm s) ρ args args' → Calls Try.prog f args'.toArray w fun e w' => e = .returned r.1 ∧ Go.RowKit.Below w.heap.size w w') := by
  unfold T41 at h
  split at h
  · rename_i hf
    have hf' : f = 41 := by simpa using hf
    subst hf'
    split at h
    · rename_i P n c bx
      split at h
      · rename_i w hb
        split at h
        · rename_i G h0
          cases h
          refine ⟨rfl, fun ⟨e, hp, hv⟩ ρ W args' hs hl => ?_⟩
          cases (show G = x.F from e)
          rw [← hv]
          refine rd41 (w := w) (c := c) hp _ W args' (two_hs hs h0 hb rfl []) ?_
          obtain ⟨u1, r1, rfl, g1, hl⟩ := hl.inv_cons
          obtain ⟨u2, r2, rfl, g2, hl⟩ := hl.inv_cons
          cases hl.inv_nil
          exact VL.cons (famV_vr g1 rfl (two_dm (by omega))) (VL.cons (VR.clo g2 (two_dm (by omega)) rfl) VL.nil)
        · cases h
      · cases h
    · cases h
  · cases h
noncomputable def KC1 (x : MX) (v : Int) : Given := { Given.readsP Given.nothing (T41 x v) with fits := true }
theorem KC1_ok (x : MX) (v : Int) : GivenOk Try.prog (KC1 x v) := frames_fits ((GivenOk.nothing _).readsP (T41_ok x v)) true
end
end ob
end Go.Proofs.Ytpfmilkddapfiaa
namespace Go.Proofs.Ytpfmilkddapfiaa
open Go.ChangeShapes Go.WideShapes Go.ChangeAt Go.RowKit Go.Cln
namespace ob
set_option linter.unusedVariables false
noncomputable section
def fstC : Code → Code
  | .seq a _ => a
  | c => c
def sndC : Code → Code
  | .seq _ b => b
  | c => c
def opsC : Code → Array Oper
  | .region _ o _ => o
  | _ => #[]
theorem deadT_all : ∀ (i : Nat) (l : List Value), deadT (fun _ => true) i l
  | _, [] => trivial
  | i, v :: l => ⟨fun h => (by cases h), deadT_all (i + 1) l⟩
def allT (_ : Nat) : Bool := true
theorem deadT_at (l : List Value) : deadT allT 0 l := deadT_all 0 l
def isNilq (o : Oper) : Option (TypeId × Operand × Option Tmp) := match o.op with
  | .binOp .eql t x (.const (.slice none 0 0)) _ => (match o.guard with
    | none => some (t, x, o.dst)
    | _ => none)
  | _ => none
theorem StepO.nilq' {P : Program} {rd : Option Nat} {s0 : St} {ρ0 : Nat → PB} {w0 : World} {s : St} {Q : Exit → St → Prop} {ops : Array Oper} {i : Nat} {l : List Nat} {d : Tmp} {t e : TypeId} {x : Operand} {B k n c g : Nat} {F : Nat → Nat → Cells}
    (ho : (ops[i]?).bind isNilq = some (t, x, some d)) (hu : P.underlying t = some (.slice e)) (hobl : s.obl)
    (hx : ev s x = some (.slice (some ⟨B, k, some g⟩) n c)) (hga : isAbs (some g) = true) (h0 : s.heap.get 0 = some (.fam F))
    (h : ∀ b, StepO P rd s0 ρ0 w0 ops l (s.set (some d) (.bool b)) Q) : StepO P rd s0 ρ0 w0 ops (i :: l) s Q := by
  rw [Option.bind_eq_some_iff] at ho
  obtain ⟨o, hq, ho⟩ := ho
  unfold isNilq at ho
  split at ho
  · rename_i h1
    split at ho
    · rename_i h2
      simp only [Option.some.injEq, Prod.mk.injEq] at ho
      obtain ⟨rfl, rfl, h3⟩ := ho
      exact StepO.nilq hq h1 hu h2 h3 hobl hx hga h0 h
    · cases ho
  · cases ho
def b43 : Code := ((Try.prog.funcs[43]?).bind (·.body)).getD .skip
theorem fn43 : (Try.prog.funcs[43]?).map (fun f => (f.body, f.results.toList, f.ntmps)) = some (some b43, [.tmp 2], 8) := by kernel_rfl
def r43 : Code := sndC (sndC b43)
def c43 : Code := sndC (fstC (sndC b43))
def o43 : Array Oper := opsC (fstC (fstC (sndC b43)))
theorem b43_eq : b43 = .seq (fstC b43) (.seq (.seq (.region 1 o43 false) c43) r43) := by kernel_rfl
theorem o43_eq : List.range o43.size = [0] ++ [1] := by kernel_rfl
noncomputable def z43 (x : MX) (Q c : Nat) : St := { smSt 1 [some (.fam x.F)] [] with tmps := [PB_ Q 0 c] ++ List.replicate 7 undef, defers := [] }
noncomputable def g43 (x : MX) : Nat → Option Ob := fun j => match j with
  | 0 => some (.fam x.F)
  | _ => none
theorem g43_ok (x : MX) : Go.Cln.RowsIn (g43 x) := by
  intro b n' w' g' t h
  unfold g43 at h
  split at h <;> cases h
noncomputable def q43 (x : MX) (k : Nat) (l : List Value) : St := ⟨l, [], Tr.rebuild (g43 x) k, k, 1, [], fun _ => false, True, []⟩
noncomputable def u0 (Q c : Nat) : List Value := [PB_ Q 0 c, undef, .slice none 0 0, undef, undef, undef, undef, undef]
noncomputable def u1 (Q c : Nat) : List Value := [PB_ Q 0 c, undef, .slice none 0 0, PB_ Q 0 c, undef, undef, undef, undef]
noncomputable def u2 (Q c : Nat) (b : Bool) : List Value := [PB_ Q 0 c, undef, .slice none 0 0, PB_ Q 0 c, .bool b, undef, undef, undef]
noncomputable def u3 (Q c : Nat) : List Value := [PB_ Q 0 c, undef, .slice (some ⟨1, 0, none⟩) 0 0, PB_ Q 0 c, .bool false, .slice (some ⟨1, 0, none⟩) 0 0, PB_ Q 0 c, .slice (some ⟨1, 0, none⟩) 0 0]
noncomputable def go43 (c : Code) (s : St) (o : List (Option Bool)) : Option (Exit × St) := (mk Try.prog KN 200).code 43 none c { s with obl := True, orc := o }
theorem k43a (x : MX) (Q c : Nat) : (go43 (fstC b43) (z43 x Q c) []).map (fun r => (r.1, r.2.obl, seenInT allT r.2 (q43 x 1 (u0 Q c)) [0])) = some (.normal, True, seenAsT allT (q43 x 1 (u0 Q c)) [0] 1) := by kernel_rfl
theorem k43b (x : MX) (Q c : Nat) : (runSeq Try.prog KN (mk Try.prog KN 200) o43 [0] { q43 x 1 (u0 Q c) with obl := True, orc := [] }).map (fun r => (r.obl, seenInT allT r (q43 x 1 (u1 Q c)) [0])) = some (True, seenAsT allT (q43 x 1 (u1 Q c)) [0] 1) := by kernel_rfl
theorem k43t (x : MX) (Q c : Nat) : (go43 c43 (q43 x 1 (u2 Q c true)) []).map (fun r => (r.1, r.2.obl, seenInT allT r.2 (q43 x 1 (u2 Q c true)) [0])) = some (.ret, True, seenAsT allT (q43 x 1 (u2 Q c true)) [0] 1) := by kernel_rfl
def p43 (x : MX) (Q : Nat) : Prop := True ∧ ((0 = 0 ∨ 0 + 0 ≤ (x.D Q).length) ∧ 0 + 0 + 0 ≤ 0)
theorem k43n (x : MX) (Q c : Nat) : (go43 c43 (q43 x 1 (u2 Q c false)) []).map (fun r => (r.1, r.2.obl, seenInT allT r.2 (q43 x 1 (u2 Q c false)) [0])) = some (.normal, True, seenAsT allT (q43 x 1 (u2 Q c false)) [0] 1) := by kernel_rfl
theorem k43e (x : MX) (Q c : Nat) : (go43 r43 (q43 x 1 (u2 Q c false)) []).map (fun r => (r.1, r.2.obl, seenInT allT r.2 (q43 x 2 (u3 Q c)) [0, 1])) = some (.ret, p43 x Q, seenAsT allT (q43 x 2 (u3 Q c)) [0, 1] 2) := by kernel_rfl
theorem ok43 (x : MX) (Q c : Nat) (b : Bool) : picOkT allT (z43 x Q c) (q43 x 1 (u2 Q c b)) [0] = true := by kernel_rfl
theorem ok43a (x : MX) (Q c : Nat) : picOkT allT (z43 x Q c) (q43 x 1 (u0 Q c)) [0] = true := by kernel_rfl
theorem ok43b (x : MX) (Q c : Nat) : picOkT allT (z43 x Q c) (q43 x 1 (u1 Q c)) [0] = true := by kernel_rfl
theorem ok43e (x : MX) (Q c : Nat) : picOkT allT (z43 x Q c) (q43 x 2 (u3 Q c)) [0, 1] = true := by kernel_rfl
theorem set43 (x : MX) (Q c : Nat) (b : Bool) : (q43 x 1 (u1 Q c)).set (some 4) (.bool b) = q43 x 1 (u2 Q c b) := by kernel_rfl
theorem gz43 (x : MX) (k : Nat) (l : List Value) (hk : 1 ≤ k) (h : k ≤ 2) : (q43 x k l).heap.get 0 = some (.fam x.F) := by
  unfold q43
  rw [Tr.get_rebuild _ _ _ (by omega), if_pos (by omega)]; rfl
theorem clone0 {x : MX} {Q c : Nat} : MkOk Try.prog x.F 43 [PB_ Q 0 c] (fun F' v => F' = x.F ∧ v = PB_ 0 0 0) := by
  refine mk_fn (s0 := z43 x Q c) rfl fn43 fun ρ0 w0 => ?_
  rw [b43_eq]
  have fin : ∀ (k : Nat) (l : List Value), 1 ≤ k → k ≤ 2 → l.length = 8 → (∀ v, l[2]? = some v → ∃ A, v = .slice A 0 0) → ∀ (w : World) (a : Act), PicG (z43 x Q c) ρ0 w0 (q43 x k l) w a → ∃ s2, (leaves? .ret = true ∧ s2.defers = [] ∧ ∃ F' q, s2.heap.get 0 = some (.fam F') ∧ Fresh w0 x.F F' ∧ results1 Try.prog s2 [.tmp 2] = some q ∧ q.2.obl ∧ farW (oneOf q.1) = true ∧ F' = x.F ∧ oneOf q.1 = PB_ 0 0 0) ∧ PicG (z43 x Q c) ρ0 w0 s2 w a := by
    intro k l hk hk2 hl hv w a hp
    have hz : (q43 x k l).heap.get 0 = some (.fam x.F) := gz43 x k l hk hk2
    refine ⟨{ q43 x k l with tmps := l.set 2 (PB_ 0 0 0) }, ⟨rfl, rfl, x.F, ([PB_ 0 0 0], { q43 x k l with tmps := l.set 2 (PB_ 0 0 0) }), hz, Fresh.refl _ _, ?_, trivial, rfl, rfl, rfl⟩, hp.tmpsTo (fun N ρ l' hN h => h.setV fun v w' hv' hr => ?_) hz⟩
    · rcases l with _ | ⟨a0, _ | ⟨a1, _ | ⟨a2, l⟩⟩⟩
      · cases hl
      · cases hl
      · cases hl
      · rfl
    · obtain ⟨A, rfl⟩ := hv v hv'
      exact hr.emptyA hN rfl
  refine StepW.seq (((StepG.stdT (rd := none) pg KN_ok (k43a x Q c) trivial (Nat.le_refl 1) (deadT_at _) (g43_ok x) rfl (ok43a x Q c)).at ρ0 w0).mono ?_)
  rintro e s ⟨rfl, rfl⟩
  refine .inl ⟨rfl, StepW.seq (StepW.seq ?_)⟩
  refine StepW.region ?_
  rw [o43_eq]
  refine StepO.run pg KN_ok (k43b x Q c) trivial (Nat.le_refl 1) (deadT_at _) (g43_ok x) rfl (ok43b x Q c) ?_
  refine StepO.nilq' (F := x.F) (B := Q) (k := 0) (n := 0) (c := c) (g := 1000) (x := .tmp 3) (t := 30) (e := 5) (d := 4) (by kernel_rfl) (by kernel_rfl) trivial rfl rfl (gz43 x 1 _ (Nat.le_refl 1) (by omega)) fun b => ?_
  rw [set43]
  refine StepO.nil (.inl ⟨rfl, ?_⟩)
  cases b with
  | true =>
    refine StepW.turn ((StepG.stdT (rd := none) pg KN_ok (k43t x Q c) trivial (Nat.le_refl 1) (deadT_at _) (g43_ok x) rfl (ok43 x Q c true)).at ρ0 w0) ?_
    rintro e s w a ⟨rfl, rfl⟩ _ hp
    obtain ⟨s2, h1, h2⟩ := fin 1 _ (Nat.le_refl 1) (by omega) rfl (fun v hv => ⟨none, by cases hv; rfl⟩) w a hp
    exact ⟨s2, .inr ⟨(by intro h; cases h), h1⟩, h2⟩
  | false =>
    refine ((StepG.stdT (rd := none) pg KN_ok (k43n x Q c) trivial (Nat.le_refl 1) (deadT_at _) (g43_ok x) rfl (ok43 x Q c false)).at ρ0 w0).mono ?_
    rintro e s ⟨rfl, rfl⟩
    refine .inl ⟨rfl, ?_⟩
    refine StepW.turn ((StepG.stdT (rd := none) pg KN_ok (k43e x Q c) ⟨trivial, .inl rfl, Nat.le_refl 0⟩ (Nat.le_refl 1) (deadT_at _) (g43_ok x) rfl (ok43e x Q c)).at ρ0 w0) ?_
    rintro e s w a ⟨rfl, rfl⟩ _ hp
    obtain ⟨s2, h1, h2⟩ := fin 2 _ (by omega) (Nat.le_refl 2) rfl (fun v hv => ⟨some ⟨1, 0, none⟩, by cases hv; rfl⟩) w a hp
    exact ⟨s2, h1, h2⟩
end
end ob
end Go.Proofs.Ytpfmilkddapfiaa
namespace Go.Proofs.Ytpfmilkddapfiaa
open Go.ChangeShapes Go.WideShapes Go.ChangeAt Go.RowKit Go.Cln
namespace ob
set_option linter.unusedVariables false
noncomputable section
def isCallq (o : Oper) : Option (Operand × Array Operand × Option Tmp) := match o.op with
  | .call c => (match c.callee with
    | .value f => (match o.guard with
      | none => some (f, c.args, o.dst)
      | _ => none)
    | _ => none)
  | _ => none
theorem StepO.call' {P : Program} {rd : Option Nat} {s0 : St} {ρ0 : Nat → PB} {w0 : World} {s : St} {Q : Exit → St → Prop} {ops : Array Oper} (G : PG P) {i : Nat} {l : List Nat} {dst : Option Tmp} {f : Operand} {args : Array Operand} {g : FuncId} {fn : Option Code × List ResultVar × Nat} {b : Code} {vs : List Value} {F : Nat → Nat → Cells} {R : (Nat → Nat → Cells) → Value → Prop}
    (ho : (ops[i]?).bind isCallq = some (f, args, dst)) (hobl : s.obl) (hf : ev s f = some (.func (.func g) #[] #[])) (hvs : evs s args.toList = some vs) (hfn : (P.funcs[g]?).map (fun f => (f.body, f.results.toList, f.ntmps)) = some fn) (hb : fn.1 = some b) (h0 : s.heap.get 0 = some (.fam F)) (hfar : vs.all farV = true) (hm : MkOk P F g vs R)
    (h : ∀ F' v, Fresh w0 F F' → R F' v → ∃ s2, ToldS s s2 F' dst v ∧ StepO P rd s0 ρ0 w0 ops l s2 Q) : StepO P rd s0 ρ0 w0 ops (i :: l) s Q := by
  rw [Option.bind_eq_some_iff] at ho
  obtain ⟨o, hq, ho⟩ := ho
  rw [Option.map_eq_some_iff] at hfn
  obtain ⟨fn', hfn, e⟩ := hfn
  subst e
  unfold isCallq at ho
  split at ho
  · rename_i c hc
    split at ho
    · rename_i f' hf'
      split at ho
      · rename_i hg
        simp only [Option.some.injEq, Prod.mk.injEq] at ho
        obtain ⟨rfl, rfl, h3⟩ := ho
        obtain ⟨callee, args, ats⟩ := c
        simp only at hf' hvs
        subst hf'
        exact StepO.call (P := P) (ats := ats) G hq hc hg h3 hobl hf hvs hfn (by rw [show fn'.body = some b from hb]; rfl) h0 hfar hm h
      · cases ho
    · cases ho
  · cases ho
theorem clone0' {x : MX} {Q n c : Nat} (hn : n = 0) : MkOk Try.prog x.F 43 [PB_ Q n c] (fun F' v => F' = x.F ∧ v = PB_ 0 0 0) := by subst hn; exact clone0
def b23 : Code := ((Try.prog.funcs[23]?).bind (·.body)).getD .skip
theorem fn23 : (Try.prog.funcs[23]?).map (fun f => (f.body, f.results.toList, f.ntmps)) = some (some b23, [.tmp 4, .tmp 5], 20) := by kernel_rfl
def e23 : Code := sndC (sndC (sndC b23))
def o23 : Array Oper := opsC (fstC e23)
theorem e23_eq : e23 = .seq (.region 4 o23 false) .ret := by kernel_rfl
theorem o23_eq : List.range o23.size = [0, 1, 2, 3, 4, 5] ++ (6 :: ([7, 8] ++ [])) := by kernel_rfl
noncomputable def z23 (x : MX) (a : OV) (w : Int) : St := { smSt 1 [some (.fam x.F)] [] with tmps := [a.v, .int .u8 w] ++ List.replicate 18 undef, defers := [] }
noncomputable def g23 (x : MX) (a : OV) : Nat → Option Ob := fun j => match j with
  | 0 => some (.fam x.F)
  | 1 => some (.cells (.lit a.l) 26)
  | _ => none
theorem g23_ok (x : MX) (a : OV) : Go.Cln.RowsIn (g23 x a) := by
  intro b n' w' g' t h
  unfold g23 at h
  split at h <;> cases h
noncomputable def q23 (x : MX) (a : OV) (l : List Value) : St := ⟨l, [], Tr.rebuild (g23 x a) 2, 2, 1, [], fun _ => false, True, []⟩
noncomputable def y0 (a : OV) (w : Int) (i : Nat) : List Value := [a.v, .int .u8 w, .pointer (some ⟨1, 0, none⟩), junk, junk, junk, .int .i64 (nI i), junk, junk, junk, junk, junk, junk, undef, undef, undef, undef, undef, undef, undef]
noncomputable def y1 (x : MX) (a : OV) (w : Int) (i : Nat) : List Value := [a.v, .int .u8 w, .pointer (some ⟨1, 0, none⟩), junk, junk, junk, .int .i64 (nI i), junk, junk, junk, junk, junk, junk, junk, junk, junk, junk, junk, PB_ (x.CQ a.P (ix3 i)) (x.CM a.P (ix3 i)) (x.CC a.P (ix3 i)), undef]
noncomputable def y2 (a : OV) (w : Int) (i : Nat) : List Value := [a.v, junk, junk, junk, PB_ 0 0 0, .bool true, junk, junk, junk, junk, junk, junk, junk, junk, junk, junk, junk, junk, junk, junk]
noncomputable def gd23 (K : Given) (s : St) (o : List (Option Bool)) : Option (St × Code) := down (mk Try.prog K 200) 23 none [2, 2, 2] b23 { s with obl := True, orc := o }
def p23 (x : MX) (a : OV) (w : Int) (i : Nat) : Prop := (True ∧ (x.F = x.F ∧ capOk x a.P a.n ∧ whereI (isntC x w a.P) a.n = nI i)) ∧ decide (nI i < 0) = false
theorem k23d (x : MX) (a : OV) (w : Int) (i : Nat) : (gd23 (KC1 x (nI i)) (z23 x a w) [some false]).map (fun r => (r.2, r.1.obl, seenInT allT r.1 (q23 x a (y0 a w i)) [0, 1])) = some (e23, p23 x a w i, seenAsT allT (q23 x a (y0 a w i)) [0, 1] 3) := by kernel_rfl
theorem up23 (x : MX) (a : OV) (w : Int) (ρ0 : Nat → PB) (w0 : World) (Q_ : Exit → St → Prop) : upW Try.prog none (z23 x a w) ρ0 w0 [2, 2, 2] b23 Q_ = Q_ := by kernel_rfl
def p23b (x : MX) (a : OV) (i : Nat) : Prop := (True ∧ (0 ≤ nI i ∧ nI i < nI a.n)) ∧ ((0 + i * 2 + 1) % 2 = 1 ∧ (0 + i * 2 + 1) / 2 < x.CN a.P)
theorem k23b (x : MX) (a : OV) (w : Int) (i : Nat) : (runSeq Try.prog KN (mk Try.prog KN 200) o23 [0, 1, 2, 3, 4, 5] { q23 x a (y0 a w i) with obl := True, orc := [some true, some false, none, some true] }).map (fun r => (r.obl, seenInT allT r (q23 x a (y1 x a w i)) [0, 1])) = some (p23b x a i, seenAsT allT (q23 x a (y1 x a w i)) [0, 1] 2) := by kernel_rfl
theorem k23c (x : MX) (a : OV) (w : Int) (i : Nat) : (runSeq Try.prog KN (mk Try.prog KN 200) o23 [7, 8] { (q23 x a (y1 x a w i)).set (some 19) (PB_ 0 0 0) with obl := True, orc := [] }).map (fun r => (r.obl, seenInT allT r (q23 x a (y2 a w i)) [0, 1])) = some (True, seenAsT allT (q23 x a (y2 a w i)) [0, 1] 2) := by kernel_rfl
theorem k23e (x : MX) (a : OV) (w : Int) (i : Nat) : ((mk Try.prog KN 200).code 23 none .ret { q23 x a (y2 a w i) with obl := True, orc := [] }).bind (fun r => (results1 Try.prog r.2 [.tmp 4, .tmp 5]).map fun q => (r.1, q.2.obl, r.2.defers, oneOf q.1, r.2.heap.get 0)) = some (.ret, True, [], .tuple #[PB_ 0 0 0, .bool true], some (.fam x.F)) := by kernel_rfl
theorem ok23a (x : MX) (a : OV) (w : Int) (i : Nat) : picOkT allT (z23 x a w) (q23 x a (y0 a w i)) [0, 1] = true := by kernel_rfl
theorem ok23b (x : MX) (a : OV) (w : Int) (i : Nat) : picOkT allT (z23 x a w) (q23 x a (y1 x a w i)) [0, 1] = true := by kernel_rfl
theorem ok23c (x : MX) (a : OV) (w : Int) (i : Nat) : picOkT allT (z23 x a w) (q23 x a (y2 a w i)) [0, 1] = true := by kernel_rfl
theorem gz23 (x : MX) (a : OV) (l : List Value) : (q23 x a l).heap.get 0 = some (.fam x.F) := by
  unfold q23
  rw [Tr.get_rebuild _ _ _ (by omega), if_pos (by omega)]; rfl
theorem cap0 {x : MX} {a : OV} {w : Int} {i : Nat} (hO : capOk x a.P a.n) (hi : i < a.n) (hw : whereI (isntC x w a.P) a.n = nI i) (hm : x.CM a.P i = 0) : MkOk Try.prog x.F 23 [a.v, .int .u8 w] (fun F' v => F' = x.F ∧ v = .tuple #[PB_ 0 0 0, .bool true]) := by
  refine mk_fn (s0 := z23 x a w) rfl fn23 fun ρ0 w0 => ?_
  refine StepW.downs pg (KC1_ok x (nI i)) (k23d x a w i) ⟨⟨trivial, rfl, hO, hw⟩, decide_eq_false (by unfold nI; omega)⟩ (deadT_at _) (g23_ok x a) rfl (ok23a x a w i) ?_
  rw [up23, e23_eq]
  refine StepW.seq (StepW.region ?_)
  rw [o23_eq]
  obtain ⟨p1, p2, p3⟩ := hO
  refine StepO.run pg KN_ok (k23b x a w i) ⟨⟨trivial, by unfold nI; omega⟩, by omega⟩ (show 1 ≤ 2 by decide) (deadT_at _) (g23_ok x a) rfl (ok23b x a w i) ?_
  refine StepO.call' (F := x.F) (g := 43) (vs := [PB_ (x.CQ a.P (ix3 i)) (x.CM a.P (ix3 i)) (x.CC a.P (ix3 i))]) (f := .func 43) (args := #[.tmp 18]) (dst := some 19) pg (by kernel_rfl) trivial rfl rfl fn43 rfl (gz23 x a _) rfl (clone0' (by rw [ix3_eq]; exact hm)) ?_
  rintro F' v hf ⟨rfl, rfl⟩
  refine ⟨(q23 x a (y1 x a w i)).set (some 19) (PB_ 0 0 0), ⟨rfl, rfl, rfl, rfl, rfl, rfl, gz23 x a _, fun _ _ => rfl⟩, ?_⟩
  refine StepO.run pg KN_ok (k23c x a w i) trivial (show 1 ≤ 2 by decide) (deadT_at _) (g23_ok x a) rfl (ok23c x a w i) ?_
  refine StepO.nil (.inl ⟨rfl, ?_⟩)
  refine ((StepG.ranM (s0 := z23 x a w) (rd := none) pg KN_ok (k23e x a w i) trivial (show 1 ≤ 2 by decide)).at ρ0 w0).mono ?_
  rintro e s' ⟨rfl, h1, h2, q, h3, h4, h5⟩
  exact ⟨rfl, h1, _, q, h2, Fresh.refl _ _, h3, h4, by rw [h5]; rfl, rfl, h5⟩
end
end ob
end Go.Proofs.Ytpfmilkddapfiaa
namespace Go.Proofs.Ytpfmilkddapfiaa
open Go.ChangeShapes Go.WideShapes Go.ChangeAt Go.RowKit Go.Cln
namespace ob
set_option linter.unusedVariables false
noncomputable section
theorem kp_caps {x y : MX} (h : Keeps x.F y.F) {P n : Nat} (h0 : 0 < n) (hn : n ≤ x.CN P) : y.CN P = x.CN P ∧ y.cap P = x.cap P := by
  have e : (x.F 1003 P).get 0 = some (.int .u8 (x.CK P 0)) := by
    show (Cells.rows (x.CN P) 2 (x.cap P)).get 0 = _
    have := rows_get (n := x.CN P) (w := 2) (g := x.cap P) (i := 0) (j := 0) (by omega) (by omega)
    exact this
  have h1 := h 1003 P 0 _ e
  have h2 : Cells.rows (y.CN P) 2 (y.cap P) = Cells.rows (x.CN P) 2 (x.cap P) := h1
  injection h2 with h3 h4 h5
  exact ⟨h3, h5⟩
theorem kp_byt {x y : MX} (h : Keeps x.F y.F) {B : Nat} (h0 : 0 < (x.D B).length) : y.D B = x.D B := by
  have e : Cells.ints .u8 (y.D B) = Cells.ints .u8 (x.D B) := h.ints (g := 1000) (B := B) (k := .u8) (L := x.D B) rfl h0
  exact (Cells.ints.inj e).2
theorem kp_cap {x y : MX} (h : Keeps x.F y.F) {P n j : Nat} (hj : j < n) (hn : n ≤ x.CN P) : n ≤ y.CN P ∧ y.CK P j = x.CK P j ∧ y.CQ P j = x.CQ P j ∧ y.CM P j = x.CM P j := by
  obtain ⟨h1, h2⟩ := kp_caps h (n := n) (by omega) hn
  have h3 := congrFun h2 j
  unfold MX.cap at h3
  simp only [List.cons.injEq, Value.int.injEq, Value.slice.injEq, Option.some.injEq, Addr.mk.injEq, and_true, true_and] at h3
  exact ⟨by omega, h3.1, h3.2.1, h3.2.2.1⟩
theorem kp_row {x y : MX} (h : Keeps x.F y.F) {Q m : Nat} (hm : m ≤ (x.D Q).length) : m ≤ (y.D Q).length ∧ (y.D Q).take m = (x.D Q).take m ∨ m = 0 := by
  rcases Nat.eq_zero_or_pos m with h0 | h0
  · exact .inr h0
  · rw [kp_byt h (by omega)]; exact .inl ⟨hm, rfl⟩
theorem kp_capOk {x y : MX} (h : Keeps x.F y.F) {P n : Nat} (hO : capOk x P n) : capOk y P n := by
  obtain ⟨p1, p2, p3⟩ := hO
  rcases Nat.eq_zero_or_pos n with h0 | h0
  · subst h0; exact ⟨Nat.zero_le _, Nat.zero_le _, fun i hi => absurd hi (Nat.not_lt_zero i)⟩
  · refine ⟨(kp_cap h (j := 0) h0 p1).1, p2, fun i hi => ?_⟩
    obtain ⟨_, _, c2, c3⟩ := kp_cap h hi p1
    obtain ⟨b1, b2⟩ := p3 i hi
    rw [c2, c3]
    refine ⟨?_, b2⟩
    rcases kp_row h b1 with ⟨g, _⟩ | g
    · exact g
    · rw [g]; exact Nat.zero_le _
theorem SameCaps.capOk {x y : MX} {P P' n : Nat} (h : SameCaps x P y P' n) (hO : capOk x P n) : capOk y P' n := ⟨h.cn, hO.2.1, fun i hi => ⟨h.len i hi, by rw [h.m i hi]; exact (hO.2.2 i hi).2⟩⟩
structure Alike (y : MX) (P Q n : Nat) : Prop where
  k : ∀ j, j < n → y.CK P j = y.CK Q j
  m : ∀ j, j < n → y.CM P j = y.CM Q j
  eq : ∀ j, j < n → (y.D (y.CQ P j)).take (y.CM P j) = (y.D (y.CQ Q j)).take (y.CM Q j)
theorem Alike.symm {y : MX} {P Q n : Nat} (h : Alike y P Q n) : Alike y Q P n := ⟨fun j hj => (h.k j hj).symm, fun j hj => (h.m j hj).symm, fun j hj => (h.eq j hj).symm⟩
theorem SameCaps.alike {x y : MX} {P P' n : Nat} (h : SameCaps x P y P' n) (hk : Keeps x.F y.F) (hO : Go.Proofs.Ytpfmilkddapfiaa.ob.capOk x P n) : Alike y P' P n := by
  obtain ⟨p1, p2, p3⟩ := hO
  refine ⟨fun j hj => ?_, fun j hj => ?_, fun j hj => ?_⟩
  · rw [h.k j hj, (kp_cap hk hj p1).2.1]
  · rw [h.m j hj, (kp_cap hk hj p1).2.2.2]
  · obtain ⟨_, _, c2, c3⟩ := kp_cap hk hj p1
    rw [h.m j hj, c2, c3]
    have := h.eq j hj
    rw [h.m j hj] at this
    rw [this]
    rcases kp_row hk (p3 j hj).1 with ⟨_, g⟩ | g
    · exact g.symm
    · rw [g]; rfl
theorem beqB_self : ∀ l : List UInt8, beqB l l = true
  | [] => rfl
  | a :: l => by simp [beqB, beqB_self l]
theorem few_ok {x : MX} {a : OV} (hf : fewE x a = true) (hn : a.n ≤ x.CN a.P) (hl : ∀ i, i < a.n → x.CM a.P i ≤ (x.D (x.CQ a.P i)).length) : capOk x a.P a.n := by
  unfold fewE at hf
  rw [Bool.and_eq_true] at hf
  have h30 : a.n ≤ 30 := by have := of_decide_eq_true hf.2; unfold nI at this; omega
  refine ⟨hn, by omega, fun i hi => ⟨hl i hi, ?_⟩⟩
  have := allB_at hf.1 i hi
  unfold fewCapE at this
  simp only [Bool.not_eq_true', decide_eq_false_iff_not, decide_eq_true_eq, ix3_eq] at this
  unfold nI at this; omega
theorem rd10 {x : MX} : Rd Try.prog x.F 10 [] (.bool true) := fun ρ w args' hs ha => by
  cases ha.inv_nil
  exact works w
noncomputable def rw10 (x : MX) (args : List Value) : Option (Value × Prop) := match args with
  | [] => some (.bool true, True)
  | _ => none
theorem rw10_ok (x : MX) {args : List Value} {r : Value × Prop} (h : rw10 x args = some r) : flat r.1 = true ∧ args.all farV = true ∧ (r.2 → Rd Try.prog x.F 10 args r.1) := by
  unfold rw10 at h
  split at h
  · cases h
    exact ⟨rfl, rfl, fun _ => rd10⟩
  · cases h
noncomputable def rw9 (x : MX) (args : List Value) : Option (Value × Prop) := match args with
  | [.agg z0] => (ovOf z0).bind fun u => some (.bool (fewE x u), u.n ≤ x.CN u.P ∧ u.n ≤ 9223372036854775807)
  | _ => none
theorem rw9_ok (x : MX) {args : List Value} {r : Value × Prop} (h : rw9 x args = some r) : flat r.1 = true ∧ args.all farV = true ∧ (r.2 → Rd Try.prog x.F 9 args r.1) := by
  unfold rw9 at h
  split at h
  · rename_i z0
    rw [Option.bind_eq_some_iff] at h
    obtain ⟨u, hu, h⟩ := h
    cases h
    rw [ovOf_v hu]
    exact ⟨rfl, rfl, fun hp => rd9 hp⟩
  · cases h
noncomputable def TA (x : MX) (f : FuncId) (args : List Value) : Option (Value × Prop) := if f == 9 then rw9 x args else if f == 10 then rw10 x args else none
theorem TA_ok (x : MX) (f : FuncId) (args : List Value) (r : Value × Prop) (h : TA x f args = some r) : flat r.1 = true ∧ args.all farV = true ∧ (r.2 → Rd Try.prog x.F f args r.1) := by
  unfold TA at h
  by_cases e9 : (f == 9) = true
  · have hf : f = 9 := by simpa using e9
    subst hf
    exact rw9_ok x h
  rw [if_neg e9] at h
  by_cases e10 : (f == 10) = true
  · have hf : f = 10 := by simpa using e10
    subst hf
    exact rw10_ok x h
  rw [if_neg e10] at h
  cases h
noncomputable def KA (x : MX) : Given := { Given.rds Given.nothing x.F (TA x) with fits := true }
theorem KA_ok (x : MX) : GivenOk Try.prog (KA x) := frames_fits ((GivenOk.nothing _).rds (TA_ok x)) true
end
end ob
end Go.Proofs.Ytpfmilkddapfiaa
