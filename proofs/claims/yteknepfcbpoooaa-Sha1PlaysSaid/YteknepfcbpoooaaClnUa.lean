/- Read off the code by the clean reading. -/
import Derived.Test.YteknepfcbpoooaaClnTc
import Derived.Test.YteknepfcbpoooaaClnQd
set_option linter.unusedVariables false
set_option linter.unusedSimpArgs false
set_option linter.deprecated false
set_option maxRecDepth 100000
namespace Go.Proofs.Yteknepfcbpoooaa
open Go.ChangeShapes Go.WideShapes Go.ChangeAt Go.RowKit Go.Cln
namespace sq
set_option linter.unusedVariables false
noncomputable section
abbrev AF := List Int → hz.HS → hz.HS
abbrev DF := hz.HS → Nat → sw.N5
abbrev RF := List Int → sw.N5
noncomputable def r12e (B : hc.BF) (x : Acts) : Option (Value × Go.Cln.St) := (mk Try.prog (Given.frames Given.nothing (tc.FZ B)) 300).call 12 [E0] (smSt 1 [some (.fam x.F)] [])
def oF (Fm : Nat → Nat → Cells) : List (Option Ob) := some (.fam Fm) :: List.replicate 24 none
def YE (x : Acts) : List Int := List.take (0 + 0) (List.drop 0 (layI [] (0 + 0) (List.take 0 (List.drop 0 (x.D 0))))) ++ List.take (hy.tl 0) (List.drop 0 (hy.T 0))
theorem YE_eq (x : Acts) : YE x = tc.YY := by
  unfold YE tc.YY
  simp [layI]
def p12e (B : hc.BF) (x : Acts) : Prop := (((True ∧ ((0 = 0 ∨ 0 + 0 ≤ (x.D 0).length) ∧ 0 + 0 + 0 ≤ ([] : List Int).length)) ∧ 0 ≤ 1152921504606846976) ∧ (0 + hy.tl 0 ≤ (hy.T 0).length ∧ 0 + (0 + 0) ≤ (layI [] (0 + 0) (List.take 0 (List.drop 0 (x.D 0)))).length ∧ (0 + 0 + hy.tl 0) * 1 ≤ mostBytes ∧ 0 + 0 + hy.tl 0 ≤ mostBytes)) ∧
  (B = sw.blkR ∧ (IntKind.i64.wrap (0 + 64)).toNat - Int.toNat 0 = 64 ∧ (List.take 64 (List.drop (0 + Int.toNat 0 * 1) (YE x))).length = 64)
theorem p12e_ok (x : Acts) : p12e sw.blkR x := by
  obtain ⟨⟨⟨_, h1⟩, h2, h3, h4⟩, h5, h6, h7⟩ := tc.p12z_ok
  refine ⟨⟨⟨⟨trivial, .inl rfl, Nat.le_refl _⟩, h1⟩, h2, ?_, h4⟩, h5, h6, by rw [YE_eq]; exact h7⟩
  exact Nat.zero_le _
theorem run12e (B : hc.BF) (x : Acts) : (r12e B x).map (fun r => (r.1, r.2.obl, r.2.next, keepL (true :: List.replicate 24 false) r.2.heap.get 0)) = some (tb.outR (B hz.F0 (hx.ch (List.take 64 (List.drop (0 + Int.toNat 0 * 1) (YE x))))), p12e B x, (oF x.F).length, oF x.F) := by kernel_rfl
theorem sum0e (x : Acts) : CallOk Try.prog 12 [E0] (smSt 1 [some (.fam x.F)] []) (hy.outV (hz.shaN [])) (smSt 1 (oF x.F) []) := by
  have := frame_by sw.pg ((GivenOk.nothing _).frames (tc.FZ_ok sw.blkR)) (true :: List.replicate 24 false) (run12e sw.blkR x) (p12e_ok x) (by rfl) rfl
  rw [YE_eq, tc.z_valR] at this; exact this
def F12e (x : Acts) (R : RF) (f : FuncId) (args : List Value) (s : Go.Cln.St) : Option Inst := if f == 12 then match args with
  | [.slice (some ⟨0, 0, some 1000⟩) 0 0] => match s.heap.get 0 with
    | some (.fam Fm) => some ⟨[(0, 0)], 1, [some (.fam Fm)], [E0], hy.outV (R []), oF Fm, R = hz.shaN ∧ Fm = x.F⟩
    | _ => none
  | _ => none else none
theorem F12e_ok (x : Acts) (R : RF) (f : FuncId) (args : List Value) (s : Go.Cln.St) (i : Inst) (h : F12e x R f args s = some i) : Fits s i args ∧ (i.ask → CallOk Try.prog f i.args i.s0 i.val i.s1) := by
  unfold F12e at h
  split at h
  · rename_i hf
    have hf' : f = 12 := by simpa using hf
    subst hf'
    split at h
    · split at h
      · rename_i Fm hF
        cases h
        refine ⟨⟨rfl, fun j pp ob h1 h2 => ?_⟩, fun ha => by obtain ⟨rfl, rfl⟩ := ha; exact sum0e x⟩
        rcases j with _ | j
        · simp only [List.getElem?_cons_zero, Option.some.injEq] at h1
          subst h1
          simp only [List.getElem?_cons_zero, Option.some.injEq] at h2
          subst h2
          exact ⟨_, hF, fun _ _ _ _ hx => hx⟩
        · simp at h1
      · cases h
    · cases h
  · cases h
def FT (x : Acts) (Aw : AF) (Dw : DF) (R : RF) (f : FuncId) (args : List Value) (s : Go.Cln.St) : Option Inst := match hz.FH Aw Dw f args s with
  | some i => some i
  | none => match F12e x R f args s with
    | some i => some i
    | none => match tb.F12 R f args s with
      | some i => some i
      | none => tc.F10 f args s
theorem F10_ok (f : FuncId) (args : List Value) (s : Go.Cln.St) (i : Inst) (h : tc.F10 f args s = some i) : Fits s i args ∧ (i.ask → CallOk Try.prog f i.args i.s0 i.val i.s1) := by
  unfold tc.F10 at h
  split at h
  · rename_i hf
    have hf' : f = 10 := by simpa using hf
    subst hf'
    split at h
    · cases h
      exact ⟨⟨rfl, fun j p ob hp ho => by simp at hp⟩, fun _ => tc.works_ok⟩
    · cases h
  · cases h
theorem FT_ok (x : Acts) (Aw : AF) (Dw : DF) (R : RF) (f : FuncId) (args : List Value) (s : Go.Cln.St) (i : Inst) (h : FT x Aw Dw R f args s = some i) : Fits s i args ∧ (i.ask → CallOk Try.prog f i.args i.s0 i.val i.s1) := by
  unfold FT at h
  split at h
  · rename_i j h1
    cases h; exact hz.FH_ok Aw Dw f args s _ h1
  · split at h
    · rename_i j h1
      cases h; exact F12e_ok x R f args s _ h1
    · split at h
      · rename_i j h1
        cases h; exact tb.F12_ok R f args s _ h1
      · exact F10_ok f args s _ h
def KT (x : Acts) (Aw : AF) (Dw : DF) (R : RF) : Given := { Given.frames Given.nothing (FT x Aw Dw R) with fits := true }
theorem KT_ok (x : Acts) (Aw : AF) (Dw : DF) (R : RF) : GivenOk Try.prog (KT x Aw Dw R) := frames_fits ((GivenOk.nothing _).frames (FT_ok x Aw Dw R)) true
end
end sq
end Go.Proofs.Yteknepfcbpoooaa
namespace Go.Proofs.Yteknepfcbpoooaa
open Go.ChangeShapes Go.WideShapes Go.ChangeAt Go.RowKit Go.Cln
namespace sq
set_option linter.unusedVariables false
noncomputable section
structure Sd where
  h : hz.HS
  z : Int
  L : List Int
  a : Nat
  q : Nat
abbrev VF := Nat → Value
def S (n c : Nat) : Value := .slice (some ⟨1, 0, none⟩) n c
def T : Option Bool := some true
def F : Option Bool := some false
def fr0 : Frm2 := ⟨[], [], [], []⟩
def tm (v : VF) (n c k : Nat) : List Value := [S n c, undef, .bool false, v 3, v 4, .slice (some ⟨6, 0, none⟩) 2 2, .pointer (some ⟨7, 0, none⟩), .int .i64 (nI k), v 8, v 9, v 10, v 11, v 12, v 13, v 14, v 15, v 16, v 17, v 18, v 19, v 20, v 21, v 22, v 23, v 24, v 25, v 26, v 27, v 28, v 29, v 30, v 31, v 32, v 33, v 34, v 35, v 36, v 37, v 38, v 39, v 40, v 41, v 42, v 43, v 44, v 45, v 46, v 47, v 48, v 49, v 50, v 51, v 52, v 53, v 54, v 55, v 56, v 57, v 58, v 59, v 60, v 61, v 62, v 63, v 64, v 65, v 66, v 67, v 68, v 69, v 70, v 71, v 72, v 73, v 74, v 75, v 76, v 77, v 78, v 79, v 80, v 81, v 82, v 83, v 84, v 85, v 86, v 87, v 88, v 89, v 90, v 91, v 92, v 93, v 94, v 95, v 96, v 97, v 98, v 99, v 100, v 101, v 102, v 103, v 104, v 105, v 106, v 107, v 108, v 109, v 110, v 111, v 112, v 113, v 114, v 115, v 116, v 117, v 118, v 119, v 120, v 121, v 122, v 123, v 124, v 125, v 126, v 127, v 128, v 129, v 130, v 131, v 132, v 133, v 134, v 135, v 136, v 137, v 138, v 139, v 140, v 141, v 142, v 143, v 144, v 145, v 146, v 147, v 148, v 149, v 150, v 151, v 152, v 153, v 154, v 155, v 156, v 157, v 158, v 159, v 160, v 161, v 162, v 163, v 164, v 165, v 166, v 167, v 168, v 169, v 170, v 171, v 172, v 173, v 174, v 175, v 176, v 177, v 178, v 179, v 180]
theorem tm_dead {v : VF} {n c k : Nat} {B : Nat → Bool} (h : ∀ i, DeadV (v i)) (hB : ∀ i, ((Nat.ble 0 i && Nat.ble i 2) || (Nat.ble 5 i && Nat.ble i 7)) = true → B i = true) : deadT B 0 (tm v n c k) :=
  ⟨fun e => absurd e (by rw [hB 0 rfl]; decide), ⟨fun e => absurd e (by rw [hB 1 rfl]; decide), ⟨fun e => absurd e (by rw [hB 2 rfl]; decide), ⟨fun _ => h 3, ⟨fun _ => h 4, ⟨fun e => absurd e (by rw [hB 5 rfl]; decide), ⟨fun e => absurd e (by rw [hB 6 rfl]; decide), ⟨fun e => absurd e (by rw [hB 7 rfl]; decide), ⟨fun _ => h 8, ⟨fun _ => h 9, ⟨fun _ => h 10, ⟨fun _ => h 11, ⟨fun _ => h 12, ⟨fun _ => h 13, ⟨fun _ => h 14, ⟨fun _ => h 15, ⟨fun _ => h 16, ⟨fun _ => h 17, ⟨fun _ => h 18, ⟨fun _ => h 19, ⟨fun _ => h 20, ⟨fun _ => h 21, ⟨fun _ => h 22, ⟨fun _ => h 23, ⟨fun _ => h 24, ⟨fun _ => h 25, ⟨fun _ => h 26, ⟨fun _ => h 27, ⟨fun _ => h 28, ⟨fun _ => h 29, ⟨fun _ => h 30, ⟨fun _ => h 31, ⟨fun _ => h 32, ⟨fun _ => h 33, ⟨fun _ => h 34, ⟨fun _ => h 35, ⟨fun _ => h 36, ⟨fun _ => h 37, ⟨fun _ => h 38, ⟨fun _ => h 39, ⟨fun _ => h 40, ⟨fun _ => h 41, ⟨fun _ => h 42, ⟨fun _ => h 43, ⟨fun _ => h 44, ⟨fun _ => h 45, ⟨fun _ => h 46, ⟨fun _ => h 47, ⟨fun _ => h 48, ⟨fun _ => h 49, ⟨fun _ => h 50, ⟨fun _ => h 51, ⟨fun _ => h 52, ⟨fun _ => h 53, ⟨fun _ => h 54, ⟨fun _ => h 55, ⟨fun _ => h 56, ⟨fun _ => h 57, ⟨fun _ => h 58, ⟨fun _ => h 59, ⟨fun _ => h 60, ⟨fun _ => h 61, ⟨fun _ => h 62, ⟨fun _ => h 63, ⟨fun _ => h 64, ⟨fun _ => h 65, ⟨fun _ => h 66, ⟨fun _ => h 67, ⟨fun _ => h 68, ⟨fun _ => h 69, ⟨fun _ => h 70, ⟨fun _ => h 71, ⟨fun _ => h 72, ⟨fun _ => h 73, ⟨fun _ => h 74, ⟨fun _ => h 75, ⟨fun _ => h 76, ⟨fun _ => h 77, ⟨fun _ => h 78, ⟨fun _ => h 79, ⟨fun _ => h 80, ⟨fun _ => h 81, ⟨fun _ => h 82, ⟨fun _ => h 83, ⟨fun _ => h 84, ⟨fun _ => h 85, ⟨fun _ => h 86, ⟨fun _ => h 87, ⟨fun _ => h 88, ⟨fun _ => h 89, ⟨fun _ => h 90, ⟨fun _ => h 91, ⟨fun _ => h 92, ⟨fun _ => h 93, ⟨fun _ => h 94, ⟨fun _ => h 95, ⟨fun _ => h 96, ⟨fun _ => h 97, ⟨fun _ => h 98, ⟨fun _ => h 99, ⟨fun _ => h 100, ⟨fun _ => h 101, ⟨fun _ => h 102, ⟨fun _ => h 103, ⟨fun _ => h 104, ⟨fun _ => h 105, ⟨fun _ => h 106, ⟨fun _ => h 107, ⟨fun _ => h 108, ⟨fun _ => h 109, ⟨fun _ => h 110, ⟨fun _ => h 111, ⟨fun _ => h 112, ⟨fun _ => h 113, ⟨fun _ => h 114, ⟨fun _ => h 115, ⟨fun _ => h 116, ⟨fun _ => h 117, ⟨fun _ => h 118, ⟨fun _ => h 119, ⟨fun _ => h 120, ⟨fun _ => h 121, ⟨fun _ => h 122, ⟨fun _ => h 123, ⟨fun _ => h 124, ⟨fun _ => h 125, ⟨fun _ => h 126, ⟨fun _ => h 127, ⟨fun _ => h 128, ⟨fun _ => h 129, ⟨fun _ => h 130, ⟨fun _ => h 131, ⟨fun _ => h 132, ⟨fun _ => h 133, ⟨fun _ => h 134, ⟨fun _ => h 135, ⟨fun _ => h 136, ⟨fun _ => h 137, ⟨fun _ => h 138, ⟨fun _ => h 139, ⟨fun _ => h 140, ⟨fun _ => h 141, ⟨fun _ => h 142, ⟨fun _ => h 143, ⟨fun _ => h 144, ⟨fun _ => h 145, ⟨fun _ => h 146, ⟨fun _ => h 147, ⟨fun _ => h 148, ⟨fun _ => h 149, ⟨fun _ => h 150, ⟨fun _ => h 151, ⟨fun _ => h 152, ⟨fun _ => h 153, ⟨fun _ => h 154, ⟨fun _ => h 155, ⟨fun _ => h 156, ⟨fun _ => h 157, ⟨fun _ => h 158, ⟨fun _ => h 159, ⟨fun _ => h 160, ⟨fun _ => h 161, ⟨fun _ => h 162, ⟨fun _ => h 163, ⟨fun _ => h 164, ⟨fun _ => h 165, ⟨fun _ => h 166, ⟨fun _ => h 167, ⟨fun _ => h 168, ⟨fun _ => h 169, ⟨fun _ => h 170, ⟨fun _ => h 171, ⟨fun _ => h 172, ⟨fun _ => h 173, ⟨fun _ => h 174, ⟨fun _ => h 175, ⟨fun _ => h 176, ⟨fun _ => h 177, ⟨fun _ => h 178, ⟨fun _ => h 179, ⟨fun _ => h 180, trivial⟩⟩⟩⟩⟩⟩⟩⟩⟩⟩⟩⟩⟩⟩⟩⟩⟩⟩⟩⟩⟩⟩⟩⟩⟩⟩⟩⟩⟩⟩⟩⟩⟩⟩⟩⟩⟩⟩⟩⟩⟩⟩⟩⟩⟩⟩⟩⟩⟩⟩⟩⟩⟩⟩⟩⟩⟩⟩⟩⟩⟩⟩⟩⟩⟩⟩⟩⟩⟩⟩⟩⟩⟩⟩⟩⟩⟩⟩⟩⟩⟩⟩⟩⟩⟩⟩⟩⟩⟩⟩⟩⟩⟩⟩⟩⟩⟩⟩⟩⟩⟩⟩⟩⟩⟩⟩⟩⟩⟩⟩⟩⟩⟩⟩⟩⟩⟩⟩⟩⟩⟩⟩⟩⟩⟩⟩⟩⟩⟩⟩⟩⟩⟩⟩⟩⟩⟩⟩⟩⟩⟩⟩⟩⟩⟩⟩⟩⟩⟩⟩⟩⟩⟩⟩⟩⟩⟩⟩⟩⟩⟩⟩⟩⟩⟩⟩⟩⟩⟩⟩⟩⟩⟩⟩⟩⟩⟩⟩⟩⟩⟩
def ad (A : Sd) : Option Ob := some (.cells (.lit (hz.cH A.h A.z)) 73)
def ob (A : Sd) : Option Ob := some (.cells (.ints .u8 A.L) 5)
def sl (b : Nat) (A : Sd) : Value := .slice (some ⟨b, 0, some 1⟩) A.a A.q
def HH (x : Acts) (n : Nat) (A B : Sd) (u w : Value) (o8 o9 : Option Ob) : Nat → Option Ob := fun i => match i with
  | 0 => some (.fam x.F)
  | 1 => some (.cells (.rows n 3 x.row) 0)
  | 6 => some (.cells (.lit [.pointer (some ⟨8, 0, none⟩), .pointer (some ⟨9, 0, none⟩)]) 47)
  | 7 => some (.cells (.lit [u, w]) 50)
  | 8 => ad A
  | 9 => ad B
  | 10 => o8
  | 11 => o9
  | _ => none
abbrev HF := Acts → Nat → Sd → Sd → Nat → Option Ob
def HEE : HF := fun x n A B => HH x n A B E0 E0 none none
def HRE : HF := fun x n A B => HH x n A B (sl 10 A) E0 (ob A) none
def HER : HF := fun x n A B => HH x n A B E0 (sl 11 B) none (ob B)
def HRR : HF := fun x n A B => HH x n A B (sl 10 A) (sl 11 B) (ob A) (ob B)
def HSS : HF := fun x n A B => HH x n A B (sl 10 A) (sl 10 A) (ob A) none
def st (H : HF) (x : Acts) (n c k : Nat) (A B : Sd) (v : VF) : St := ⟨tm v n c k, [], Tr.rebuild (H x n A B) 12, 12, 2, [], fun _ => false, True, []⟩
def lb : Code := loopB Try.prog 8 1
theorem xrow_ok (x : Acts) (i : Nat) (v : Value) (h : v ∈ x.row i) : (∀ σ, ren σ v = v) ∧ ∀ s : St, okB s 0 = true → okV s v = true := by
  simp only [Acts.row, List.mem_cons, List.not_mem_nil, or_false] at h
  rcases h with rfl | rfl | rfl
  · exact ⟨fun _ => rfl, fun _ _ => rfl⟩
  · exact ⟨fun _ => rfl, fun _ _ => rfl⟩
  · exact ⟨fun _ => rfl, fun _ h => h⟩
def HFok (H : HF) : Prop := ∀ (x : Acts) (n : Nat) (A B : Sd), Go.Cln.RowsIn (H x n A B)
theorem HH_ok {x : Acts} {n : Nat} {A B : Sd} {u w : Value} {o8 o9 : Option Ob} (h8 : o8 = none ∨ ∃ A, o8 = ob A) (h9 : o9 = none ∨ ∃ A, o9 = ob A) : Go.Cln.RowsIn (HH x n A B u w o8 o9) := by
  intro b n' w' g t h
  unfold HH at h
  split at h
  · cases h
  · cases h; exact xrow_ok x
  · cases h
  · cases h
  · cases h
  · cases h
  · rcases h8 with rfl | ⟨A, rfl⟩ <;> cases h
  · rcases h9 with rfl | ⟨A, rfl⟩ <;> cases h
  · cases h
theorem hEE : HFok HEE := fun x n A B => HH_ok (.inl rfl) (.inl rfl)
theorem hRE : HFok HRE := fun x n A B => HH_ok (.inr ⟨A, rfl⟩) (.inl rfl)
theorem hER : HFok HER := fun x n A B => HH_ok (.inl rfl) (.inr ⟨B, rfl⟩)
theorem hRR : HFok HRR := fun x n A B => HH_ok (.inr ⟨A, rfl⟩) (.inr ⟨B, rfl⟩)
theorem hSS : HFok HSS := fun x n A B => HH_ok (.inr ⟨A, rfl⟩) (.inl rfl)
def Ww0 (i : Nat) : Bool := (Nat.ble 8 i && Nat.ble i 11) || (Nat.ble 39 i && Nat.ble i 47) || (Nat.ble 49 i && Nat.ble i 52) || (Nat.ble 68 i && Nat.ble i 93) || (Nat.ble 104 i && Nat.ble i 113)
def Vw0 (v : VF) : VF := fun i =>
  match Nat.beq i 48 with
  | true => .agg #[junk, junk, junk]
  | false =>
  match Ww0 i with
  | true => junk
  | false => v i
def Bw0 (i : Nat) : Bool := ((Nat.ble 0 i && Nat.ble i 2) || (Nat.ble 5 i && Nat.ble i 7) || Nat.beq i 48) || Ww0 i
theorem Vw0_dead {v : VF} (h : ∀ i, DeadV (v i)) (i : Nat) : DeadV (Vw0 v i) := by
  unfold Vw0
  split
  · exact ⟨rfl, fun _ => rfl, fun _ => rfl⟩
  split
  · exact DeadV.junk
  · exact h i
def Ww1 (i : Nat) : Bool := (Nat.ble 8 i && Nat.ble i 11) || (Nat.ble 39 i && Nat.ble i 47) || (Nat.ble 49 i && Nat.ble i 52) || (Nat.ble 68 i && Nat.ble i 113)
def Vw1 (v : VF) : VF := fun i =>
  match Nat.beq i 48 with
  | true => .agg #[junk, junk, junk]
  | false =>
  match Ww1 i with
  | true => junk
  | false => v i
def Bw1 (i : Nat) : Bool := ((Nat.ble 0 i && Nat.ble i 2) || (Nat.ble 5 i && Nat.ble i 7) || Nat.beq i 48) || Ww1 i
theorem Vw1_dead {v : VF} (h : ∀ i, DeadV (v i)) (i : Nat) : DeadV (Vw1 v i) := by
  unfold Vw1
  split
  · exact ⟨rfl, fun _ => rfl, fun _ => rfl⟩
  split
  · exact DeadV.junk
  · exact h i
def Ws (i : Nat) : Bool := (Nat.ble 8 i && Nat.ble i 9) || (Nat.ble 39 i && Nat.ble i 47) || (Nat.ble 49 i && Nat.ble i 52) || (Nat.ble 68 i && Nat.ble i 69) || (Nat.ble 114 i && Nat.ble i 119) || (Nat.ble 121 i && Nat.ble i 123) || (Nat.ble 125 i && Nat.ble i 137)
def Vs (v : VF) : VF := fun i =>
  match Nat.beq i 48 with
  | true => .agg #[junk, junk, junk]
  | false =>
  match Nat.beq i 120 with
  | true => .agg #[junk, junk, junk, junk, junk, junk, junk, junk, junk, junk, junk, junk, junk, junk, junk, junk, junk, junk, junk, junk]
  | false =>
  match Nat.beq i 124 with
  | true => .agg #[junk, junk, junk, junk, junk, junk, junk, junk, junk, junk, junk, junk, junk, junk, junk, junk, junk, junk, junk, junk]
  | false =>
  match Ws i with
  | true => junk
  | false => v i
def Bs (i : Nat) : Bool := ((Nat.ble 0 i && Nat.ble i 2) || (Nat.ble 5 i && Nat.ble i 7) || Nat.beq i 48 || Nat.beq i 120 || Nat.beq i 124) || Ws i
theorem Vs_dead {v : VF} (h : ∀ i, DeadV (v i)) (i : Nat) : DeadV (Vs v i) := by
  unfold Vs
  split
  · exact ⟨rfl, fun _ => rfl, fun _ => rfl⟩
  split
  · exact ⟨rfl, fun _ => rfl, fun _ => rfl⟩
  split
  · exact ⟨rfl, fun _ => rfl, fun _ => rfl⟩
  split
  · exact DeadV.junk
  · exact h i
def Wc (i : Nat) : Bool := (Nat.ble 8 i && Nat.ble i 9) || (Nat.ble 39 i && Nat.ble i 47) || (Nat.ble 49 i && Nat.ble i 69) || (Nat.ble 114 i && Nat.ble i 115)
def Vc (v : VF) : VF := fun i =>
  match Nat.beq i 48 with
  | true => .agg #[junk, junk, junk]
  | false =>
  match Wc i with
  | true => junk
  | false => v i
def Bc (i : Nat) : Bool := ((Nat.ble 0 i && Nat.ble i 2) || (Nat.ble 5 i && Nat.ble i 7) || Nat.beq i 48) || Wc i
theorem Vc_dead {v : VF} (h : ∀ i, DeadV (v i)) (i : Nat) : DeadV (Vc v i) := by
  unfold Vc
  split
  · exact ⟨rfl, fun _ => rfl, fun _ => rfl⟩
  split
  · exact DeadV.junk
  · exact h i
def Wx (i : Nat) : Bool := (Nat.ble 39 i && Nat.ble i 42)
def Vx (v : VF) : VF := fun i =>
  match Wx i with
  | true => junk
  | false => v i
def Bx (i : Nat) : Bool := ((Nat.ble 0 i && Nat.ble i 2) || (Nat.ble 5 i && Nat.ble i 7)) || Wx i
theorem Vx_dead {v : VF} (h : ∀ i, DeadV (v i)) (i : Nat) : DeadV (Vx v i) := by
  unfold Vx
  split
  · exact DeadV.junk
  · exact h i
end
end sq
end Go.Proofs.Yteknepfcbpoooaa
namespace Go.Proofs.Yteknepfcbpoooaa
open Go.ChangeShapes Go.WideShapes Go.ChangeAt Go.RowKit Go.Cln
namespace sq
set_option linter.unusedVariables false
noncomputable section
def Wpre (i : Nat) : Bool := (Nat.ble 39 i && Nat.ble i 42) || (Nat.ble 45 i && Nat.ble i 47) || (Nat.ble 49 i && Nat.ble i 52) || (Nat.ble 68 i && Nat.ble i 89)
def Winn (i : Nat) : Bool := (Nat.ble 90 i && Nat.ble i 103)
def ix (k : Nat) : Nat := (0 + k * 3) / 3
theorem ix_eq (k : Nat) : ix k = k := by unfold ix; omega
def Vpre (v : VF) : VF := fun i => match Wpre i with
  | true => junk
  | false => v i
def Vinn (v : VF) : VF := fun i => match Winn i with
  | true => junk
  | false => v i
theorem Vpre_dead {v : VF} (h : ∀ i, DeadV (v i)) (i : Nat) : DeadV (Vpre v i) := by
  unfold Vpre
  split
  · exact DeadV.junk
  · exact h i
theorem Vinn_dead {v : VF} (h : ∀ i, DeadV (v i)) (i : Nat) : DeadV (Vinn v i) := by
  unfold Vinn
  split
  · exact DeadV.junk
  · exact h i
def byv (x : Acts) (k : Nat) : Value := .slice (some ⟨x.Q (ix k), 0, some 1000⟩) (x.m (ix k)) (x.c (ix k))
def xs (x : Acts) (k : Nat) : List Value := [.int .i64 (x.wh (ix k)), .bool (x.tw (ix k)), byv x k]
def tmJ (v : VF) (x : Acts) (n c k : Nat) (kk : Int) (j : Nat) : List Value := [S n c, undef, .bool false, v 3, v 4, .slice (some ⟨6, 0, none⟩) 2 2, .pointer (some ⟨7, 0, none⟩), .int .i64 (nI k), .pointer (some ⟨12, 0, none⟩), .int .i64 kk, .slice (some ⟨14, 0, some 1⟩) (0 + x.m (ix k)) (0 + x.m (ix k)), .int .i64 (nI j), v 12, v 13, v 14, v 15, v 16, v 17, v 18, v 19, v 20, v 21, v 22, v 23, v 24, v 25, v 26, v 27, v 28, v 29, v 30, v 31, v 32, v 33, v 34, v 35, v 36, v 37, v 38, v 39, v 40, v 41, v 42, v 43, v 44, v 45, v 46, v 47, .agg (xs x k).toArray, v 49, v 50, v 51, v 52, v 53, v 54, v 55, v 56, v 57, v 58, v 59, v 60, v 61, v 62, v 63, v 64, v 65, v 66, v 67, v 68, v 69, v 70, v 71, v 72, v 73, v 74, v 75, v 76, v 77, v 78, v 79, v 80, v 81, v 82, v 83, v 84, v 85, v 86, v 87, v 88, v 89, v 90, v 91, v 92, v 93, v 94, v 95, v 96, v 97, v 98, v 99, v 100, v 101, v 102, v 103, v 104, v 105, v 106, v 107, v 108, v 109, v 110, v 111, v 112, v 113, v 114, v 115, v 116, v 117, v 118, v 119, v 120, v 121, v 122, v 123, v 124, v 125, v 126, v 127, v 128, v 129, v 130, v 131, v 132, v 133, v 134, v 135, v 136, v 137, v 138, v 139, v 140, v 141, v 142, v 143, v 144, v 145, v 146, v 147, v 148, v 149, v 150, v 151, v 152, v 153, v 154, v 155, v 156, v 157, v 158, v 159, v 160, v 161, v 162, v 163, v 164, v 165, v 166, v 167, v 168, v 169, v 170, v 171, v 172, v 173, v 174, v 175, v 176, v 177, v 178, v 179, v 180]
def BJ (i : Nat) : Bool := ((Nat.ble 0 i && Nat.ble i 2) || (Nat.ble 5 i && Nat.ble i 11) || Nat.beq i 48) || Winn i
theorem tmJ_dead {v : VF} {x : Acts} {n c k j : Nat} {kk : Int} (h : ∀ i, DeadV (v i)) : deadT BJ 0 (tmJ v x n c k kk j) :=
  ⟨fun e => absurd e (by decide), ⟨fun e => absurd e (by decide), ⟨fun e => absurd e (by decide), ⟨fun _ => h 3, ⟨fun _ => h 4, ⟨fun e => absurd e (by decide), ⟨fun e => absurd e (by decide), ⟨fun e => absurd e (by decide), ⟨fun e => absurd e (by decide), ⟨fun e => absurd e (by decide), ⟨fun e => absurd e (by decide), ⟨fun e => absurd e (by decide), ⟨fun _ => h 12, ⟨fun _ => h 13, ⟨fun _ => h 14, ⟨fun _ => h 15, ⟨fun _ => h 16, ⟨fun _ => h 17, ⟨fun _ => h 18, ⟨fun _ => h 19, ⟨fun _ => h 20, ⟨fun _ => h 21, ⟨fun _ => h 22, ⟨fun _ => h 23, ⟨fun _ => h 24, ⟨fun _ => h 25, ⟨fun _ => h 26, ⟨fun _ => h 27, ⟨fun _ => h 28, ⟨fun _ => h 29, ⟨fun _ => h 30, ⟨fun _ => h 31, ⟨fun _ => h 32, ⟨fun _ => h 33, ⟨fun _ => h 34, ⟨fun _ => h 35, ⟨fun _ => h 36, ⟨fun _ => h 37, ⟨fun _ => h 38, ⟨fun _ => h 39, ⟨fun _ => h 40, ⟨fun _ => h 41, ⟨fun _ => h 42, ⟨fun _ => h 43, ⟨fun _ => h 44, ⟨fun _ => h 45, ⟨fun _ => h 46, ⟨fun _ => h 47, ⟨fun e => absurd e (by decide), ⟨fun _ => h 49, ⟨fun _ => h 50, ⟨fun _ => h 51, ⟨fun _ => h 52, ⟨fun _ => h 53, ⟨fun _ => h 54, ⟨fun _ => h 55, ⟨fun _ => h 56, ⟨fun _ => h 57, ⟨fun _ => h 58, ⟨fun _ => h 59, ⟨fun _ => h 60, ⟨fun _ => h 61, ⟨fun _ => h 62, ⟨fun _ => h 63, ⟨fun _ => h 64, ⟨fun _ => h 65, ⟨fun _ => h 66, ⟨fun _ => h 67, ⟨fun _ => h 68, ⟨fun _ => h 69, ⟨fun _ => h 70, ⟨fun _ => h 71, ⟨fun _ => h 72, ⟨fun _ => h 73, ⟨fun _ => h 74, ⟨fun _ => h 75, ⟨fun _ => h 76, ⟨fun _ => h 77, ⟨fun _ => h 78, ⟨fun _ => h 79, ⟨fun _ => h 80, ⟨fun _ => h 81, ⟨fun _ => h 82, ⟨fun _ => h 83, ⟨fun _ => h 84, ⟨fun _ => h 85, ⟨fun _ => h 86, ⟨fun _ => h 87, ⟨fun _ => h 88, ⟨fun _ => h 89, ⟨fun _ => h 90, ⟨fun _ => h 91, ⟨fun _ => h 92, ⟨fun _ => h 93, ⟨fun _ => h 94, ⟨fun _ => h 95, ⟨fun _ => h 96, ⟨fun _ => h 97, ⟨fun _ => h 98, ⟨fun _ => h 99, ⟨fun _ => h 100, ⟨fun _ => h 101, ⟨fun _ => h 102, ⟨fun _ => h 103, ⟨fun _ => h 104, ⟨fun _ => h 105, ⟨fun _ => h 106, ⟨fun _ => h 107, ⟨fun _ => h 108, ⟨fun _ => h 109, ⟨fun _ => h 110, ⟨fun _ => h 111, ⟨fun _ => h 112, ⟨fun _ => h 113, ⟨fun _ => h 114, ⟨fun _ => h 115, ⟨fun _ => h 116, ⟨fun _ => h 117, ⟨fun _ => h 118, ⟨fun _ => h 119, ⟨fun _ => h 120, ⟨fun _ => h 121, ⟨fun _ => h 122, ⟨fun _ => h 123, ⟨fun _ => h 124, ⟨fun _ => h 125, ⟨fun _ => h 126, ⟨fun _ => h 127, ⟨fun _ => h 128, ⟨fun _ => h 129, ⟨fun _ => h 130, ⟨fun _ => h 131, ⟨fun _ => h 132, ⟨fun _ => h 133, ⟨fun _ => h 134, ⟨fun _ => h 135, ⟨fun _ => h 136, ⟨fun _ => h 137, ⟨fun _ => h 138, ⟨fun _ => h 139, ⟨fun _ => h 140, ⟨fun _ => h 141, ⟨fun _ => h 142, ⟨fun _ => h 143, ⟨fun _ => h 144, ⟨fun _ => h 145, ⟨fun _ => h 146, ⟨fun _ => h 147, ⟨fun _ => h 148, ⟨fun _ => h 149, ⟨fun _ => h 150, ⟨fun _ => h 151, ⟨fun _ => h 152, ⟨fun _ => h 153, ⟨fun _ => h 154, ⟨fun _ => h 155, ⟨fun _ => h 156, ⟨fun _ => h 157, ⟨fun _ => h 158, ⟨fun _ => h 159, ⟨fun _ => h 160, ⟨fun _ => h 161, ⟨fun _ => h 162, ⟨fun _ => h 163, ⟨fun _ => h 164, ⟨fun _ => h 165, ⟨fun _ => h 166, ⟨fun _ => h 167, ⟨fun _ => h 168, ⟨fun _ => h 169, ⟨fun _ => h 170, ⟨fun _ => h 171, ⟨fun _ => h 172, ⟨fun _ => h 173, ⟨fun _ => h 174, ⟨fun _ => h 175, ⟨fun _ => h 176, ⟨fun _ => h 177, ⟨fun _ => h 178, ⟨fun _ => h 179, ⟨fun _ => h 180, trivial⟩⟩⟩⟩⟩⟩⟩⟩⟩⟩⟩⟩⟩⟩⟩⟩⟩⟩⟩⟩⟩⟩⟩⟩⟩⟩⟩⟩⟩⟩⟩⟩⟩⟩⟩⟩⟩⟩⟩⟩⟩⟩⟩⟩⟩⟩⟩⟩⟩⟩⟩⟩⟩⟩⟩⟩⟩⟩⟩⟩⟩⟩⟩⟩⟩⟩⟩⟩⟩⟩⟩⟩⟩⟩⟩⟩⟩⟩⟩⟩⟩⟩⟩⟩⟩⟩⟩⟩⟩⟩⟩⟩⟩⟩⟩⟩⟩⟩⟩⟩⟩⟩⟩⟩⟩⟩⟩⟩⟩⟩⟩⟩⟩⟩⟩⟩⟩⟩⟩⟩⟩⟩⟩⟩⟩⟩⟩⟩⟩⟩⟩⟩⟩⟩⟩⟩⟩⟩⟩⟩⟩⟩⟩⟩⟩⟩⟩⟩⟩⟩⟩⟩⟩⟩⟩⟩⟩⟩⟩⟩⟩⟩⟩⟩⟩⟩⟩⟩⟩⟩⟩⟩⟩⟩⟩⟩⟩⟩⟩⟩⟩
def HJ (H : HF) (x : Acts) (n k : Nat) (A B : Sd) (M : List Int) : Nat → Option Ob := fun i => match i with
  | 12 => some (.cells (.lit (xs x k)) 46)
  | 14 => some (.cells (.ints .u8 M) 5)
  | i => H x n A B i
def sJ (H : HF) (x : Acts) (n c k : Nat) (A B : Sd) (v : VF) (kk : Int) (M : List Int) (j : Nat) : St := ⟨tmJ v x n c k kk j, [], Tr.rebuild (HJ H x n k A B M) 21, 21, 2, [], fun _ => false, True, []⟩
def lj : Code := loopB Try.prog 8 2
def K0 : Given := { Given.nothing with fits := true }
theorem K0_ok : GivenOk Try.prog K0 := frames_fits (GivenOk.nothing _) true
def up (M : List Int) (j : Nat) : List Int := M.set (0 + j * 1) (IntKind.u8.wrap (M.getD (0 + j * 1) 0 + 1))
def pJJ (m : Nat) (M : List Int) (j : Nat) : Prop := (((((True ∧ decide (nI j < nI (0 + m)) = true) ∧ (0 ≤ nI j ∧ nI j < nI (0 + m))) ∧ 0 + j * 1 < M.length) ∧ (0 ≤ nI j ∧ nI j < nI (0 + m))) ∧ 0 + j * 1 + 1 ≤ M.length) ∧ IntKind.i64.wrap (nI j + 1) = nI j + 1
def oJ : List (Option Bool) := [some true, some true, some true, none, some true, some true, some true]
def goJ (s : St) (rd : Option Nat) (o : List (Option Bool)) (t : St) : Option (Exit × Prop × Seen) := ((mk Try.prog K0 200).code 8 rd lj { s with obl := True, orc := o }).map (fun r => (r.1, r.2.obl, seenInT BJ r.2 t []))
def runJ (H : HF) : Prop := ∀ (x : Acts) (n c k : Nat) (A B : Sd) (v : VF) (kk : Int) (M : List Int) (j : Nat) (rd : Option Nat), goJ (sJ H x n c k A B v kk M j) rd oJ (sJ H x n c k A B (Vinn v) kk (up M j) (j + 1)) =
    some (.normal, pJJ (x.m (ix k)) M j, seenAsT BJ (sJ H x n c k A B (Vinn v) kk (up M j) (j + 1)) [] 21)
def runJX (H : HF) : Prop := ∀ (x : Acts) (n c k : Nat) (A B : Sd) (v : VF) (kk : Int) (M : List Int) (j : Nat) (rd : Option Nat), goJ (sJ H x n c k A B (Vinn v) kk M j) rd [some false] (sJ H x n c k A B (Vinn v) kk M j) =
    some (.exit 5, True ∧ decide (nI j < nI (0 + x.m (ix k))) = false, seenAsT BJ (sJ H x n c k A B (Vinn v) kk M j) [] 21)
def okJ (H : HF) : Prop := ∀ (x : Acts) (n c k k' : Nat) (A B A' B' : Sd) (v v' : VF) (kk kk' : Int) (M M' : List Int) (j j' : Nat), picOkT BJ (sJ H x n c k A B v kk M j) (sJ H x n c k' A' B' (Vinn v') kk' M' j') [] = true
theorem jnEE : runJ HEE := by intro x n c k A B v kk M j rd; kernel_rfl
theorem jxEE : runJX HEE := by intro x n c k A B v kk M j rd; kernel_rfl
theorem joEE : okJ HEE := by intro x n c k k2 A B A2 B2 v v2 kk kk2 M M2 j j2; kernel_rfl
theorem jnRE : runJ HRE := by intro x n c k A B v kk M j rd; kernel_rfl
theorem jxRE : runJX HRE := by intro x n c k A B v kk M j rd; kernel_rfl
theorem joRE : okJ HRE := by intro x n c k k2 A B A2 B2 v v2 kk kk2 M M2 j j2; kernel_rfl
theorem jnER : runJ HER := by intro x n c k A B v kk M j rd; kernel_rfl
theorem jxER : runJX HER := by intro x n c k A B v kk M j rd; kernel_rfl
theorem joER : okJ HER := by intro x n c k k2 A B A2 B2 v v2 kk kk2 M M2 j j2; kernel_rfl
theorem jnRR : runJ HRR := by intro x n c k A B v kk M j rd; kernel_rfl
theorem jxRR : runJX HRR := by intro x n c k A B v kk M j rd; kernel_rfl
theorem joRR : okJ HRR := by intro x n c k k2 A B A2 B2 v v2 kk kk2 M M2 j j2; kernel_rfl
theorem jnSS : runJ HSS := by intro x n c k A B v kk M j rd; kernel_rfl
theorem jxSS : runJX HSS := by intro x n c k A B v kk M j rd; kernel_rfl
theorem joSS : okJ HSS := by intro x n c k k2 A B A2 B2 v v2 kk kk2 M M2 j j2; kernel_rfl
theorem Vinn2 (v : VF) : Vinn (Vinn v) = Vinn v := by
  funext i
  unfold Vinn
  cases Winn i <;> rfl
def ups (M : List Int) : Nat → List Int
  | 0 => M
  | j + 1 => up (ups M j) j
theorem ups_len (M : List Int) : ∀ j, (ups M j).length = M.length
  | 0 => rfl
  | j + 1 => by unfold ups up; rw [List.length_set]; exact ups_len M j
theorem pJJ_ok {m : Nat} {M : List Int} {j : Nat} (hj : j < m) (hM : M.length = m) (h100 : m ≤ 1000) : pJJ m M j := by
  unfold pJJ
  simp only [nI, decide_eq_true_eq]
  rw [IntKind.wrap_i64]
  exact ⟨⟨⟨⟨⟨⟨trivial, by omega⟩, by omega⟩, by omega⟩, by omega⟩, by omega⟩, by omega⟩
theorem HJ_ok {H : HF} (h : HFok H) (x : Acts) (n k : Nat) (A B : Sd) (M : List Int) : Go.Cln.RowsIn (HJ H x n k A B M) := by
  intro b n' w' g t hb
  unfold HJ at hb
  split at hb
  · cases hb
  · cases hb
  · exact h x n A B _ _ _ _ _ hb
def vj (v : VF) : Nat → VF
  | 0 => v
  | _ + 1 => Vinn v
theorem loopJ {H : HF} (hH : HFok H) (h1 : runJ H) (h2 : runJX H) (h3 : okJ H) (x : Acts) (n c k : Nat) (A B : Sd) (v : VF) (kk : Int) (M : List Int) (m : Nat) (hm : x.m (ix k) = m) (h0 : 0 < m) (h100 : m ≤ 1000) (hM : M.length = m) (hv : ∀ i, DeadV (v i)) (rd : Option Nat) :
    CodeOk Try.prog rd (.loop lj) (sJ H x n c k A B v kk M 0) (.exit 5) (sJ H x n c k A B (Vinn v) kk (ups M m) m) := by
  have hvj : ∀ j i, DeadV (vj v j i) := fun j i => by
    cases j with
    | zero => exact hv i
    | succ j => exact Vinn_dead hv i
  refine CodeOk.of_step (Step.loop (fun g t => ∃ j, j ≤ m ∧ g = m - j ∧ t = sJ H x n c k A B (vj v j) kk (ups M j) j) ?_ m _ ⟨0, by omega, by omega, rfl⟩)
  rintro g t ⟨j, g1, rfl, rfl⟩
  by_cases hj : j = m
  · subst hj
    obtain ⟨i, rfl⟩ : ∃ i, j = i + 1 := ⟨j - 1, by omega⟩
    refine (Step.stdT (s0 := sJ H x n c k A B v kk M 0) sw.pg K0_ok (B := BJ) (g := HJ H x n k A B (ups M (i + 1))) (h2 x n c k A B v kk (ups M (i + 1)) (i + 1) rd) ⟨trivial, by rw [hm]; simp only [nI, decide_eq_false_iff_not]; omega⟩ (Nat.le_refl _) (tmJ_dead (Vinn_dead hv)) (HJ_ok hH x n k A B _) rfl (h3 ..)).mono ?_
    rintro e' t ⟨rfl, rfl⟩
    exact .inr ⟨(by intro x; cases x), rfl, rfl⟩
  · have e1 : vj v (j + 1) = Vinn (vj v j) := by
      cases j with
      | zero => rfl
      | succ j => exact (Vinn2 v).symm
    refine (Step.stdT (s0 := sJ H x n c k A B v kk M 0) sw.pg K0_ok (B := BJ) (g := HJ H x n k A B (up (ups M j) j)) (h1 x n c k A B (vj v j) kk (ups M j) j rd) (by rw [hm]; exact pJJ_ok (by omega) (by rw [ups_len]; exact hM) h100) (Nat.le_refl _) (tmJ_dead (Vinn_dead (hvj j))) (HJ_ok hH x n k A B _) rfl (h3 ..)).mono ?_
    rintro e' t ⟨rfl, rfl⟩
    exact .inl ⟨rfl, m - (j + 1), by omega, j + 1, by omega, rfl, by rw [e1]; rfl⟩
end
end sq
end Go.Proofs.Yteknepfcbpoooaa
namespace Go.Proofs.Yteknepfcbpoooaa
open Go.ChangeShapes Go.WideShapes Go.ChangeAt Go.RowKit Go.Cln
namespace sq
set_option linter.unusedVariables false
noncomputable section
def z0 : Sd := ⟨⟨fun _ => 0, 0, hz.F0⟩, 0, [], 0, 0⟩
def askX (X : St) (f : FuncId) (c : Code) (s : Go.Cln.St) : Option Ask2 := if f == 8 then some ⟨⟨[39, 40, 41, 42, 45, 46, 47, 49, 50, 51, 52, 68, 69, 70, 71, 72, 73, 74, 75, 76, 77, 78, 79, 80, 81, 82, 83, 84, 85, 86, 87, 88, 89], [], [], [13]⟩, .exit 5, fun _ => X⟩ else none
def KJ (x : Acts) (Aw : AF) (Dw : DF) (R : RF) (X : St) : Given := Given.asking2 (KT x Aw Dw R) Try.prog (askX X)
theorem KJ_ok (x : Acts) (Aw : AF) (Dw : DF) (R : RF) (X : St) : GivenOk Try.prog (KJ x Aw Dw R X) := (KT_ok x Aw Dw R).asking2 _
def rowx (x : Acts) (k : Nat) : List Int := List.take (x.m (ix k)) (List.drop 0 (x.D (x.Q (ix k))))
def wf (x : Acts) (k : Nat) : List Int := List.take (0 + x.m (ix k)) (List.drop 0 (rowx x k))
def wz (x : Acts) (k : Nat) : List Int := List.take (0 + x.m (ix k)) (List.drop 0 (layI [] (0 + 0) (rowx x k)))
def put (Aw : AF) (A : Sd) (w : List Int) (m : Nat) : Sd := ⟨Aw w (hz.hOf (hz.cH A.h A.z)), IntKind.i64.wrap (intAt (hz.cH A.h A.z) 70 + ((0 + m : Nat) : Int)), A.L, A.a, A.q⟩
def jX (H : HF) (x : Acts) (n c k : Nat) (A B : Sd) (v : VF) (kk : Int) : St := sJ H x n c k A B (Vinn (Vpre v)) kk (ups (rowx x k) (x.m (ix k))) (x.m (ix k))
def jE (H : HF) (x : Acts) (n c k : Nat) (A B : Sd) (v : VF) (kk : Int) : St := sJ H x n c k A B (Vpre v) kk (rowx x k) 0
def m1 (A : Sd) : List Int := List.take A.a (List.drop 0 A.L)
def fk (k : Nat) : Prop := IntKind.i64.wrap (nI k + 1) = nI k + 1
def zl (b z : Nat) : Value := .slice (some ⟨b, 0, none⟩) z 0
def HZE (z : Nat) : HF := fun x n A B => HH x n A B (zl 10 z) E0 none none
def HZR (z : Nat) : HF := fun x n A B => HH x n A B (zl 10 z) (sl 11 B) none (ob B)
def HEZ (z : Nat) : HF := fun x n A B => HH x n A B E0 (zl 11 z) none none
def HRZ (z : Nat) : HF := fun x n A B => HH x n A B (sl 10 A) (zl 11 z) (ob A) none
theorem hZE (z : Nat) : HFok (HZE z) := fun x n A B => HH_ok (.inl rfl) (.inl rfl)
theorem hZR (z : Nat) : HFok (HZR z) := fun x n A B => HH_ok (.inl rfl) (.inr ⟨B, rfl⟩)
theorem hEZ (z : Nat) : HFok (HEZ z) := fun x n A B => HH_ok (.inl rfl) (.inl rfl)
theorem hRZ (z : Nat) : HFok (HRZ z) := fun x n A B => HH_ok (.inr ⟨A, rfl⟩) (.inl rfl)
def tmE (n c : Nat) : List Value := [S n c, undef, .bool false, junk, junk, .slice (some ⟨6, 0, none⟩) 2 2, .pointer (some ⟨7, 0, none⟩), .int .i64 0, undef, undef, undef, undef, undef, junk, junk, junk, junk, junk, undef, undef, junk, junk, junk, junk, junk, junk, junk, junk, junk, junk, junk, junk, junk, junk, junk, undef, junk, junk, junk, undef, undef, undef, undef, undef, undef, undef, undef, undef, undef, undef, undef, undef, undef, undef, undef, undef, undef, undef, undef, undef, undef, undef, undef, undef, undef, undef, undef, undef, undef, undef, undef, undef, undef, undef, undef, undef, undef, undef, undef, undef, undef, undef, undef, undef, undef, undef, undef, undef, undef, undef, undef, undef, undef, undef, undef, undef, undef, undef, undef, undef, undef, undef, undef, undef, undef, undef, undef, undef, undef, undef, undef, undef, undef, undef, undef, undef, undef, undef, undef, undef, undef, undef, undef, undef, undef, undef, undef, undef, undef, undef, undef, undef, undef, undef, undef, undef, undef, undef, undef, undef, undef, undef, undef, undef, undef, undef, undef, undef, undef, undef, undef, undef, undef, undef, undef, undef, undef, undef, undef, undef, undef, undef, undef, undef, undef, undef, undef, undef, undef, undef, undef, undef, undef, undef, undef, undef, undef, undef, undef, undef, undef]
def hE (x : Acts) (n : Nat) : Nat → Option Ob := fun i => match i with
  | 0 => some (.fam x.F)
  | 1 => some (.cells (.rows n 3 x.row) 0)
  | 3 => ad z0
  | 5 => ad z0
  | 6 => some (.cells (.lit [.pointer (some ⟨3, 0, none⟩), .pointer (some ⟨5, 0, none⟩)]) 47)
  | 7 => some (.cells (.lit [.slice none 0 0, .slice none 0 0]) 50)
  | _ => none
def sE (x : Acts) (n c : Nat) : St := ⟨tmE n c, [], Tr.rebuild (hE x n) 8, 8, 2, [], fun _ => false, True, []⟩
def goT (K : Given) (s : St) (rd : Option Nat) (o : List (Option Bool)) (B : Nat → Bool) (t : St) (σ : List Nat) : Option (Exit × Prop × Seen) := ((mk Try.prog K 200).code 8 rd lb { s with obl := True, orc := o }).map (fun r => (r.1, r.2.obl, seenInT B r.2 t σ))
def ask22 (Aw : AF) (A : Sd) (w : List Int) (n c : Nat) : Prop := Aw = hz.AB ∧ 0 ≤ intAt (hz.cH A.h A.z) 64 ∧ intAt (hz.cH A.h A.z) 64 < 64 ∧ n = w.length ∧ n ≤ c
def ask23 (Dw : DF) (A : Sd) : Prop := Dw = hz.DS ∧ 0 ≤ intAt (hz.cH A.h A.z) 70 ∧ intAt (hz.cH A.h A.z) 70 ≤ 1152921504606846976 ∧ intAt (hz.cH A.h A.z) 64 = (((intAt (hz.cH A.h A.z) 70).toNat % 64 : Nat) : Int)
def q12 (R : RF) (l : List Int) (a : Nat) : Prop := R = hz.shaN ∧ a = l.length ∧ 0 < a ∧ a ≤ 1000000000
theorem lv_w0 (i : Nat) (h : ((Nat.ble 0 i && Nat.ble i 2) || (Nat.ble 5 i && Nat.ble i 7)) = true) : Bw0 i = true := by
  unfold Bw0
  rw [Bool.or_eq_true]
  refine .inl ?_
  revert h
  simp only [Bool.or_eq_true, Bool.and_eq_true, Nat.ble_eq, Nat.beq_eq]
  omega
theorem lv_w1 (i : Nat) (h : ((Nat.ble 0 i && Nat.ble i 2) || (Nat.ble 5 i && Nat.ble i 7)) = true) : Bw1 i = true := by
  unfold Bw1
  rw [Bool.or_eq_true]
  refine .inl ?_
  revert h
  simp only [Bool.or_eq_true, Bool.and_eq_true, Nat.ble_eq, Nat.beq_eq]
  omega
theorem lv_s (i : Nat) (h : ((Nat.ble 0 i && Nat.ble i 2) || (Nat.ble 5 i && Nat.ble i 7)) = true) : Bs i = true := by
  unfold Bs
  rw [Bool.or_eq_true]
  refine .inl ?_
  revert h
  simp only [Bool.or_eq_true, Bool.and_eq_true, Nat.ble_eq, Nat.beq_eq]
  omega
theorem lv_c (i : Nat) (h : ((Nat.ble 0 i && Nat.ble i 2) || (Nat.ble 5 i && Nat.ble i 7)) = true) : Bc i = true := by
  unfold Bc
  rw [Bool.or_eq_true]
  refine .inl ?_
  revert h
  simp only [Bool.or_eq_true, Bool.and_eq_true, Nat.ble_eq, Nat.beq_eq]
  omega
theorem lv_x (i : Nat) (h : ((Nat.ble 0 i && Nat.ble i 2) || (Nat.ble 5 i && Nat.ble i 7)) = true) : Bx i = true := by
  unfold Bx
  rw [Bool.or_eq_true]
  refine .inl ?_
  revert h
  simp only [Bool.or_eq_true, Bool.and_eq_true, Nat.ble_eq, Nat.beq_eq]
  omega
end
end sq
end Go.Proofs.Yteknepfcbpoooaa
