/- Read off the code by the clean reading. -/
import Derived.Test.YtphiebmgeiekaaaClnKc
import Derived.Test.YtphiebmgeiekaaaClnQd
import Derived.Test.YtphiebmgeiekaaaClnKa
set_option linter.unusedVariables false
set_option linter.unusedSimpArgs false
set_option linter.deprecated false
set_option maxRecDepth 100000
namespace Go.Proofs.Ytphiebmgeiekaaa
open Go.ChangeShapes Go.WideShapes Go.ChangeAt Go.RowKit Go.Cln
namespace kc
open ka (KY kv S ix WK)
open kb (lE lN lR eY nY rY lb stA_ok AOk stS stY noS noY loopX loopY first)
open hc hx hy hz tb tc td ha hd
set_option linter.unusedVariables false
noncomputable section
/-- whatever the key and the parts: the law's call gives true -/
theorem parts {x : Nest} {y : KY} {W : World} {P n c : Nat} {u v : Value} (hat : x.At W) (hW : 0 < W.heap.size) (h : x.Ok P) (hn : n ≤ x.N P) (hu : AbsOk y.Q 0 y.n y.c u) (hv : AbsOk P 0 n c v)
    (k1 : Byt (WK x y)) (k2 : y.n = (WK x y).length) (k3 : y.n ≤ y.c) :
    Calls Try.prog 3 #[u, v] W fun e w' => e = .returned (.bool true) ∧ Below W.heap.size W w' := by
  have fin : ∀ (K : Given) (hK : GivenOk Try.prog K) (orc : List (Option Bool)) (p : Prop), call3 x y K P n c orc = some (.bool true, p) → p →
      Calls Try.prog 3 #[u, v] W fun e w' => e = .returned (.bool true) ∧ Below W.heap.size W w' := fun K hK orc p hr hp => by
    obtain ⟨ρ, g1, g2⟩ := Nest.start hat hW orc
    exact ranG sw.pg hK (ρ := ρ) hr hp rfl g1 (VL.cons (.abs ⟨Nat.zero_lt_one, rfl⟩ rfl hu) (VL.cons (g2 P n c v hv) VL.nil))
  by_cases hb1 : 500 < y.n
  · exact fin _ (KL_ok tgN x y) _ _ (runB1 tgN x y P n c) ⟨⟨trivial, by simp only [nI, decide_eq_true_eq]; omega⟩, trivial⟩
  have hF : pF y := ⟨trivial, by simp only [nI, decide_eq_false_iff_not]; omega⟩
  by_cases hb : 20 < n
  · exact fin _ (KL_ok tgN x y) _ _ (runB2 tgN x y P n c) ⟨⟨hF, by simp only [nI, decide_eq_true_eq]; omega⟩, trivial⟩
  have h20 : decide (nI n > 20) = false := by simp only [nI, decide_eq_false_iff_not]; omega
  have ha0 : a0 tgN x y := ⟨rfl, rfl, rfl, rfl, rfl, k2, by omega⟩
  by_cases h0 : n = 0
  · subst h0
    have hq : q8 tgN x y P 0 := ⟨ha0, k1, k3, h, Nat.zero_le _, by omega, Nat.zero_le _⟩
    refine fin _ (KL_ok tgN x y) _ _ (runZ tgN x y P c) ?_
    exact ⟨e12_of _ ⟨e20_of _ ⟨⟨⟨hF, hq⟩, hq⟩, ha0⟩, ha0⟩, trivial⟩
  rcases first (p := fun i => x.m P i ≤ 300) n with hm | ⟨k, j1, j2, j3⟩
  · have hl := Nest.cat_len (B := 300) h n (by omega) hm
    have hq : q8 tgN x y P n := ⟨ha0, k1, k3, h, hn, by omega, by omega⟩
    have hloop := fun rd => loopX (y := y) (c := c) h hn (by omega) (by omega) hm rd
    have hok := stA_ok h n (by omega)
    unfold stS at hloop
    cases hs : kb.stA x P n with
    | none =>
      rw [hs] at hloop hok
      have hok : x.cat P n = [] := hok
      obtain ⟨j, rfl⟩ : ∃ j, n = j + 1 := ⟨n - 1, by omega⟩
      refine fin _ (KX_ok _ _ _ _ _) _ _ (runN tgN x y _ (j + 1) c (j + 1)) ?_
      unfold pT
      rw [hok]
      exact ⟨e12_of _ ⟨e20_of _ ⟨⟨⟨⟨⟨hF, h20⟩, hloop⟩, hq⟩, hq⟩, ha0⟩, ha0⟩, trivial⟩
    | some t =>
      obtain ⟨L, a, q⟩ := t
      rw [hs] at hloop hok
      obtain ⟨i1, i2, i3, i4, i5⟩ := hok
      have et : tk L a = x.cat P n := by unfold tk; rw [List.drop_zero, i2]
      have hq3 : q11 tgN x y L a := by
        unfold q11
        rw [et]
        exact ⟨ha0, i1, i5, by omega⟩
      refine fin _ (KX_ok _ _ _ _ _) _ _ (runA tgN x y _ n c n L a q) ?_
      unfold pT
      rw [et]
      exact ⟨e12_of _ ⟨e20_of _ ⟨⟨⟨⟨⟨hF, h20⟩, hloop⟩, hq⟩, hq⟩, hq3⟩, hq3⟩, trivial⟩
  · have hloop := fun rd => loopY (y := y) (c := c) h hn (by omega) j1 j3 (by omega) rd
    unfold stY at hloop
    cases hs : kb.stA x P k with
    | none =>
      rw [hs] at hloop
      cases k with
      | zero => exact fin _ (KX_ok _ _ _ _ _) _ _ (runYE tgN x y _ n c) ⟨⟨hF, h20⟩, hloop⟩
      | succ k => exact fin _ (KX_ok _ _ _ _ _) _ _ (runYN tgN x y _ n c (k + 1)) ⟨⟨hF, h20⟩, hloop⟩
    | some t =>
      obtain ⟨L, a, q⟩ := t
      rw [hs] at hloop
      exact fin _ (KX_ok _ _ _ _ _) _ _ (runYR tgN x y _ n c k L a q) ⟨⟨hF, h20⟩, hloop⟩
end
end kc
end Go.Proofs.Ytphiebmgeiekaaa
namespace Go.Proofs.Ytphiebmgeiekaaa
open Go.ChangeShapes Go.WideShapes Go.ChangeAt Go.RowKit Go.Cln
namespace kd
open ka (KTa KTa_ok)
open hc hx hy hz tb tc td ha hd
set_option linter.unusedVariables false
noncomputable section
def zs (b c : Nat) : Value := .slice (some ⟨b, 0, none⟩) 0 c
def nl : Value := .slice none 0 0
def call8 (D : DT) (A : AT) (E : ET) (u v : Value) (k : Nat) : Option (Value × St) := (mk Try.prog (KTa kb (xorI .u8) D A E) 300).call 8 [u, v] (smSt k (List.replicate k none) [])
def call11 (D : DT) (A : AT) (E : ET) (u : Value) (k : Nat) : Option (Value × St) := (mk Try.prog (KTa kb (xorI .u8) D A E) 300).call 11 [u, nl] (smSt k (List.replicate k none) [])
end
end kd
end Go.Proofs.Ytphiebmgeiekaaa
namespace Go.Proofs.Ytphiebmgeiekaaa
open Go.ChangeShapes Go.WideShapes Go.ChangeAt Go.RowKit Go.Cln
namespace kd
open ka (KTa KTa_ok)
open hc hx hy hz tb tc td ha hd
set_option linter.unusedVariables false
noncomputable section
def RN (k : Nat) : List (Option Ob) := List.replicate k none
def P8 (A : AT) (E : ET) : Prop := ((((True ∧ w36 A l0 (xl (kb []) 54) 64 64) ∧ s28 E (q1 kb A [])) ∧ w36 A l0 (xl (kb []) 92) 64 64) ∧ w36 A (q3 kb A []) (ot1 (v28 E (q1 kb A []))) 20 20) ∧ s28 E (q4 kb A [] (ot1 (v28 E (q1 kb A []))))
theorem hh0 : Hs (q1 kb AB []) (xl (kb []) 54 ++ []) := by rw [List.append_nil]; exact hs1 []
theorem P8_ok : P8 AB DS := rest_ok hh0 ⟨trivial, Hs.zero.w (xl_len _ _).symm (Nat.le_refl _)⟩
def P11 (D : DT) : Prop := (True ∧ b22 D (xl (kb []) 54) 64) ∧ b22 D (xl (kb []) 92 ++ ot1 (D (xl (kb []) 54))) 84
theorem P11_ok : P11 shaN := by
  refine ⟨⟨trivial, rfl, ?_, by omega, by omega⟩, rfl, ?_, by omega, by omega⟩
  · rw [xl_len]
  · rw [List.length_append, xl_len, ot_len]
theorem eX : tgD kb shaN [] (xl (kb []) 54) = tgN [] [] := by unfold tgN; rw [List.append_nil]
theorem n8nn (D : DT) (A : AT) (E : ET) : (call8 D A E nl nl 0).map (fun r => (r.1, r.2.obl, r.2.next, keepL (List.replicate 79 false) r.2.heap.get 0)) = some (y12 A E kb [] (q1 kb A []), P8 A E, (RN 79).length, RN 79) := by kernel_rfl
theorem t8nn : CallOk Try.prog 8 [nl, nl] (smSt 0 (RN 0) []) (tgV [] []) (smSt 0 (RN 79) []) := by
  have := frame_by sw.pg (KTa_ok kb shaN AB DS) _ (n8nn shaN AB DS) P8_ok (by rfl) rfl
  rw [tag_eq hh0] at this
  exact this
theorem n8nz (D : DT) (A : AT) (E : ET) (d : Nat) : (call8 D A E nl (zs 0 d) 1).map (fun r => (r.1, r.2.obl, r.2.next, keepL (List.replicate 80 false) r.2.heap.get 0)) = some (y12 A E kb [] (q1 kb A []), P8 A E, (RN 80).length, RN 80) := by kernel_rfl
theorem t8nz (d : Nat) : CallOk Try.prog 8 [nl, (zs 0 d)] (smSt 1 (RN 1) []) (tgV [] []) (smSt 1 (RN 80) []) := by
  have := frame_by sw.pg (KTa_ok kb shaN AB DS) _ (n8nz shaN AB DS d) P8_ok (by rfl) rfl
  rw [tag_eq hh0] at this
  exact this
theorem n8zn (D : DT) (A : AT) (E : ET) (c : Nat) : (call8 D A E (zs 0 c) nl 1).map (fun r => (r.1, r.2.obl, r.2.next, keepL (List.replicate 80 false) r.2.heap.get 0)) = some (y12 A E kb [] (q1 kb A []), P8 A E, (RN 80).length, RN 80) := by kernel_rfl
theorem t8zn (c : Nat) : CallOk Try.prog 8 [(zs 0 c), nl] (smSt 1 (RN 1) []) (tgV [] []) (smSt 1 (RN 80) []) := by
  have := frame_by sw.pg (KTa_ok kb shaN AB DS) _ (n8zn shaN AB DS c) P8_ok (by rfl) rfl
  rw [tag_eq hh0] at this
  exact this
theorem n8zz (D : DT) (A : AT) (E : ET) (c d : Nat) : (call8 D A E (zs 0 c) (zs 1 d) 2).map (fun r => (r.1, r.2.obl, r.2.next, keepL (List.replicate 81 false) r.2.heap.get 0)) = some (y12 A E kb [] (q1 kb A []), P8 A E, (RN 81).length, RN 81) := by kernel_rfl
theorem t8zz (c d : Nat) : CallOk Try.prog 8 [(zs 0 c), (zs 1 d)] (smSt 2 (RN 2) []) (tgV [] []) (smSt 2 (RN 81) []) := by
  have := frame_by sw.pg (KTa_ok kb shaN AB DS) _ (n8zz shaN AB DS c d) P8_ok (by rfl) rfl
  rw [tag_eq hh0] at this
  exact this
theorem n11n (D : DT) (A : AT) (E : ET) : (call11 D A E nl 0).map (fun r => (r.1, r.2.obl, r.2.next, keepL (List.replicate 312 false) r.2.heap.get 0)) = some (outV (tgD kb D [] (xl (kb []) 54)), P11 D, (RN 312).length, RN 312) := by kernel_rfl
theorem t11n : CallOk Try.prog 11 [nl, nl] (smSt 0 (RN 0) []) (outV (tgN [] [])) (smSt 0 (RN 312) []) := by
  have := frame_by sw.pg (KTa_ok kb shaN AB DS) _ (n11n shaN AB DS) P11_ok (by rfl) rfl
  rw [eX] at this
  exact this
theorem n11z (D : DT) (A : AT) (E : ET) (c : Nat) : (call11 D A E (zs 0 c) 1).map (fun r => (r.1, r.2.obl, r.2.next, keepL (List.replicate 313 false) r.2.heap.get 0)) = some (outV (tgD kb D [] (xl (kb []) 54)), P11 D, (RN 313).length, RN 313) := by kernel_rfl
theorem t11z (c : Nat) : CallOk Try.prog 11 [(zs 0 c), nl] (smSt 1 (RN 1) []) (outV (tgN [] [])) (smSt 1 (RN 313) []) := by
  have := frame_by sw.pg (KTa_ok kb shaN AB DS) _ (n11z shaN AB DS c) P11_ok (by rfl) rfl
  rw [eX] at this
  exact this
end
end kd
end Go.Proofs.Ytphiebmgeiekaaa
namespace Go.Proofs.Ytphiebmgeiekaaa
open Go.ChangeShapes Go.WideShapes Go.ChangeAt Go.RowKit Go.Cln
namespace kd
open kc (GT e12 e20 nn' T1 e12_of e20_of)
open hc hx hy hz tb tc td ha hd
set_option linter.unusedVariables false
noncomputable section
def tv (T : GT) : Value := .tuple #[outV (T [] []), .int .i64 0]
def F8 (T : GT) (f : FuncId) (args : List Value) (s : St) : Option Inst := if f == 8 then match args with
  | [.slice none 0 0, .slice none 0 0] => some ⟨[], 0, RN 0, [nl, nl], tv T, RN 79, T = tgN⟩
  | [.slice none 0 0, .slice (some ⟨b, o, none⟩) 0 d] => some ⟨[(b, o)], 1, RN 1, [nl, zs 0 d], tv T, RN 80, T = tgN⟩
  | [.slice (some ⟨b, o, none⟩) 0 c, .slice none 0 0] => some ⟨[(b, o)], 1, RN 1, [zs 0 c, nl], tv T, RN 80, T = tgN⟩
  | [.slice (some ⟨b, o, none⟩) 0 c, .slice (some ⟨b', o', none⟩) 0 d] => some ⟨[(b, o), (b', o')], 2, RN 2, [zs 0 c, zs 1 d], tv T, RN 81, T = tgN⟩
  | _ => none else none
theorem noH {k j : Nat} {ob : Ob} (h : (RN k)[j]? = some (some ob)) : False := by
  unfold RN at h
  rw [List.getElem?_replicate] at h
  split at h <;> simp at h
theorem F8_ok (T : GT) (f : FuncId) (args : List Value) (s : St) (i : Inst) (h : F8 T f args s = some i) : Fits s i args ∧ (i.ask → CallOk Try.prog f i.args i.s0 i.val i.s1) := by
  unfold F8 at h
  split at h
  · rename_i hf
    have hf' : f = 8 := by simpa using hf
    subst hf'
    split at h
    · cases h
      exact ⟨⟨rfl, fun j pp ob h1 h2 => (noH h2).elim⟩, fun ha => by cases (show T = tgN from ha); exact t8nn⟩
    · rename_i b o d
      cases h
      refine ⟨⟨?_, fun j pp ob h1 h2 => (noH h2).elim⟩, fun ha => by cases (show T = tgN from ha); exact t8nz d⟩
      show [nl, Value.slice (some ⟨b, o, none⟩) 0 d] = [nl, Value.slice (some ⟨b, addO o 0, none⟩) 0 d]
      rw [addO_eq]; rfl
    · rename_i b o c
      cases h
      refine ⟨⟨?_, fun j pp ob h1 h2 => (noH h2).elim⟩, fun ha => by cases (show T = tgN from ha); exact t8zn c⟩
      show [Value.slice (some ⟨b, o, none⟩) 0 c, nl] = [Value.slice (some ⟨b, addO o 0, none⟩) 0 c, nl]
      rw [addO_eq]; rfl
    · rename_i b o c b' o' d
      cases h
      refine ⟨⟨?_, fun j pp ob h1 h2 => (noH h2).elim⟩, fun ha => by cases (show T = tgN from ha); exact t8zz c d⟩
      show [Value.slice (some ⟨b, o, none⟩) 0 c, Value.slice (some ⟨b', o', none⟩) 0 d] = [Value.slice (some ⟨b, addO o 0, none⟩) 0 c, Value.slice (some ⟨b', addO o' 0, none⟩) 0 d]
      rw [addO_eq, addO_eq]; rfl
    · cases h
  · cases h
def F11 (T : GT) (f : FuncId) (args : List Value) (s : St) : Option Inst := if f == 11 then match args with
  | [.slice none 0 0, .slice none 0 0] => some ⟨[], 0, RN 0, [nl, nl], outV (T [] []), RN 312, T = tgN⟩
  | [.slice (some ⟨b, o, none⟩) 0 c, .slice none 0 0] => some ⟨[(b, o)], 1, RN 1, [zs 0 c, nl], outV (T [] []), RN 313, T = tgN⟩
  | _ => none else none
theorem F11_ok (T : GT) (f : FuncId) (args : List Value) (s : St) (i : Inst) (h : F11 T f args s = some i) : Fits s i args ∧ (i.ask → CallOk Try.prog f i.args i.s0 i.val i.s1) := by
  unfold F11 at h
  split at h
  · rename_i hf
    have hf' : f = 11 := by simpa using hf
    subst hf'
    split at h
    · cases h
      exact ⟨⟨rfl, fun j pp ob h1 h2 => (noH h2).elim⟩, fun ha => by cases (show T = tgN from ha); exact t11n⟩
    · rename_i b o c
      cases h
      refine ⟨⟨?_, fun j pp ob h1 h2 => (noH h2).elim⟩, fun ha => by cases (show T = tgN from ha); exact t11z c⟩
      show [Value.slice (some ⟨b, o, none⟩) 0 c, nl] = [Value.slice (some ⟨b, addO o 0, none⟩) 0 c, nl]
      rw [addO_eq]; rfl
    · cases h
  · cases h
def FE (T : GT) (f : FuncId) (args : List Value) (s : St) : Option Inst := match F8 T f args s with
  | some i => some i
  | none => match F11 T f args s with
    | some i => some i
    | none => kb.F7 f args s
theorem FE_ok (T : GT) (f : FuncId) (args : List Value) (s : St) (i : Inst) (h : FE T f args s = some i) : Fits s i args ∧ (i.ask → CallOk Try.prog f i.args i.s0 i.val i.s1) := by
  unfold FE at h
  split at h
  · rename_i j h1
    cases h; exact F8_ok T f args s _ h1
  · split at h
    · rename_i j h1
      cases h; exact F11_ok T f args s _ h1
    · exact kb.F7_ok kb.works_ok f args s _ h
def KE (T : GT) : Given := { Given.frames Given.nothing (FE T) with fits := true }
theorem KE_ok (T : GT) : GivenOk Try.prog (KE T) := frames_fits ((GivenOk.nothing _).frames (FE_ok T)) true
def oE : List (Option Bool) := nn' 20 ++ (List.replicate 20 T1 ++ (nn' 55 ++ List.replicate 12 T1))
def call3 (T : GT) (u v : Value) (k : Nat) : Option (Value × Prop) := ((mk Try.prog (KE T) 300).call 3 [u, v] (St.start k .leaf oE)).map (fun r => (r.1, r.2.obl))
def pE (T : GT) : Prop := e12 (e20 (((True ∧ T = tgN) ∧ T = tgN) ∧ T = tgN) (T [] []) (T [] []) ∧ T = tgN) (T [] []) (T [] []) ∧ True
theorem r3nn (T : GT) : call3 T nl nl 0 = some (.bool true, pE T) := by kernel_rfl
theorem r3nz (T : GT) (d : Nat) : call3 T nl (zs 0 d) 1 = some (.bool true, pE T) := by kernel_rfl
theorem r3zn (T : GT) (c : Nat) : call3 T (zs 0 c) nl 1 = some (.bool true, pE T) := by kernel_rfl
theorem r3zz (T : GT) (c d : Nat) : call3 T (zs 0 c) (zs 1 d) 2 = some (.bool true, pE T) := by kernel_rfl
theorem pE_ok : pE tgN := ⟨e12_of _ ⟨e20_of _ ⟨⟨⟨trivial, rfl⟩, rfl⟩, rfl⟩, rfl⟩, trivial⟩
end
end kd
end Go.Proofs.Ytphiebmgeiekaaa
namespace Go.Cln
open Go.ChangeShapes Go.WideShapes Go.ChangeAt Go.RowKit
theorem crowF {w : World} {a : Option Addr} {n c : Nat} {k : IntKind}
    (h : ∃ a' n' c', Value.slice a n c = .slice a' n' c' ∧ n' ≤ c' ∧ c' ≤ maxLen ∧ (n' = 0 ∨ ∃ (b o : Nat) (f : Nat → Int), a' = some ⟨b, o, none⟩ ∧ b < w.heap.size ∧ ∀ i, i < n' → w.cell? ⟨b, o + i, none⟩ = some (.int k (f i)) ∧ (Lit.int k (f i)).wf = true)) :
    n = 0 ∨ ∃ (b o : Nat) (f : Nat → Int), a = some ⟨b, o, none⟩ ∧ b < w.heap.size ∧ ∀ i, i < n → w.cell? ⟨b, o + i, none⟩ = some (.int k (f i)) ∧ (Lit.int k (f i)).wf = true := by
  obtain ⟨a', n', c', e, _, _, h⟩ := h
  cases e
  exact h
end Go.Cln
namespace Go.Proofs.Ytphiebmgeiekaaa
open Go.ChangeShapes Go.WideShapes Go.ChangeAt Go.RowKit Go.Cln
namespace kd
open ka (KY WK)
open hc hx hy hz tb tc td ha hd
set_option linter.unusedVariables false
noncomputable section
theorem nest_of {W : World} {b o n : Nat} (h : ∀ i, i < n → ∃ v, W.cell? ⟨b, o + i, none⟩ = some v ∧ InRow W v) : ∃ x : Nest, x.At W ∧ x.Ok (plc b o) ∧ x.N (plc b o) = n ∧ x.D = worldB W := by
  let v : Nat → Value := fun i => (W.cell? ⟨b, o + i, none⟩).getD undef
  have hv : ∀ i, i < n → W.cell? ⟨b, o + i, none⟩ = some (v i) ∧ InRow W (v i) := fun i hi => by
    obtain ⟨u, h1, h2⟩ := h i hi
    have : v i = u := by show (W.cell? ⟨b, o + i, none⟩).getD undef = u; rw [h1]; rfl
    rw [this]; exact ⟨h1, h2⟩
  have row : ∀ i, i < n → ((worldB W (rowQ (v i))).drop 0).take (rowM (v i)) = (worldB W (rowQ (v i))).take (rowM (v i)) := fun i _ => by rw [List.drop_zero]
  have good : ∀ i, i < n → (((worldB W (rowQ (v i))).take (rowM (v i))).length = rowM (v i) ∧ ∀ y ∈ (worldB W (rowQ (v i))).take (rowM (v i)), 0 ≤ y ∧ y < 256) ∧ rowM (v i) ≤ rowC (v i) ∧ AbsOk (rowQ (v i)) 0 (rowM (v i)) (rowC (v i)) (v i) := fun i hi => by
    obtain ⟨_, a, m, c, e, hle, hm⟩ := hv i hi
    rw [e]
    cases m with
    | zero => exact ⟨⟨by simp [rowM], fun y hy => by simp [rowM] at hy⟩, Nat.zero_le _, Nat.zero_le _, .inr ⟨rfl, a, c, rfl⟩⟩
    | succ m =>
      rcases hm with h0 | ⟨b', o', f, rfl, hf⟩
      · exact absurd h0 (by omega)
      · exact ⟨worldB_row (m := m + 1) hf (Nat.succ_ne_zero m), hle, AbsOk.of hle⟩
  refine ⟨⟨fun P => if P = plc b o then n else 0, fun _ i => rowQ (v i), fun _ i => rowM (v i), fun _ i => rowC (v i), worldB W⟩, ⟨fun P j y hy => worldB_get hy, fun P i hi => ?_⟩, ⟨fun i hi => ?_, fun i hi => ?_, fun i hi => ?_⟩, if_pos rfl, rfl⟩
  · by_cases hP : P = plc b o
    · subst hP
      simp only [if_true] at hi
      obtain ⟨pc, t, fr, q1, q2⟩ := cell_in (hv i hi).1
      exact ⟨pc, t, fr, v i, by rw [blkOf_plc]; exact q1, by rw [baseOf_plc]; exact q2, (good i hi).2.2⟩
    · simp only [if_neg hP] at hi; omega
  · simp only [if_true] at hi
    unfold Nest.row; rw [List.drop_zero]; exact (good i hi).1.1
  · simp only [if_true] at hi; exact (good i hi).2.1
  · simp only [if_true] at hi
    unfold Nest.row; rw [List.drop_zero]; exact (good i hi).1.2
/-- the law, for every key and every parts -/
theorem hmacParts (W : World) (a0 : Option Addr) (n0 c0 : Nat) (s0 : (a0 = none ∧ n0 = 0 ∧ c0 = 0) ∨ ∃ b o, a0 = some ⟨b, o, none⟩ ∧ n0 ≤ c0 ∧ (c0 : Int) ≤ 9223372036854775807)
    (z0 : n0 = 0 ∨ ∃ (b o : Nat) (f : Nat → Int), a0 = some ⟨b, o, none⟩ ∧ b < W.heap.size ∧ ∀ j, j < n0 → W.cell? ⟨b, o + j, none⟩ = some (.int .u8 (f j)) ∧ (Lit.int .u8 (f j)).wf = true)
    (a1 : Option Addr) (n1 c1 : Nat) (s1 : (a1 = none ∧ n1 = 0 ∧ c1 = 0) ∨ ∃ b o, a1 = some ⟨b, o, none⟩ ∧ n1 ≤ c1 ∧ (c1 : Int) ≤ 9223372036854775807)
    (z1 : n1 = 0 ∨ ∃ b o, a1 = some ⟨b, o, none⟩ ∧ b < W.heap.size ∧ ∀ i, i < n1 → ∃ x, W.cell? ⟨b, o + i, none⟩ = some x ∧ InRow W x) :
    Calls Try.prog 3 #[.slice a0 n0 c0, .slice a1 n1 c1] W fun e w' => e = .returned (.bool true) ∧ Below W.heap.size W w' := by
  by_cases he : n0 = 0 ∧ n1 = 0
  · obtain ⟨rfl, rfl⟩ := he
    rcases s0 with ⟨rfl, _, rfl⟩ | ⟨b, o, rfl, hc, _⟩ <;> rcases s1 with ⟨rfl, _, rfl⟩ | ⟨b', o', rfl, hc', _⟩
    · exact ran sw.pg (KE_ok tgN) (r3nn tgN) pE_ok rfl rfl W
    · exact ranG sw.pg (KE_ok tgN) (ρ := fun _ => ⟨b', o', 0⟩) (r3nz tgN c1) pE_ok rfl (named_hs 1 _ _ W) (VL.cons (VR.same rfl) (VL.cons (VR.unread (a := ⟨b', o', none⟩) (by decide) rfl rfl hc') VL.nil))
    · exact ranG sw.pg (KE_ok tgN) (ρ := fun _ => ⟨b, o, 0⟩) (r3zn tgN c0) pE_ok rfl (named_hs 1 _ _ W) (VL.cons (VR.unread (a := ⟨b, o, none⟩) (by decide) rfl rfl hc) (VL.cons (VR.same rfl) VL.nil))
    · exact ranG sw.pg (KE_ok tgN) (ρ := fun k => if k = 0 then ⟨b, o, 0⟩ else ⟨b', o', 0⟩) (r3zz tgN c0 c1) pE_ok rfl (named_hs 2 _ _ W) (VL.cons (VR.unread (a := ⟨b, o, none⟩) (by decide) rfl rfl hc) (VL.cons (VR.unread (a := ⟨b', o', none⟩) (by decide) rfl rfl hc') VL.nil))
  · have hW : 0 < W.heap.size := by
      rcases z0 with h | ⟨_, _, _, _, hb, _⟩
      · rcases z1 with h' | ⟨_, _, _, hb, _⟩
        · exact absurd ⟨h, h'⟩ he
        · omega
      · omega
    obtain ⟨x, P, h1, h2, h3, h4, hv⟩ : ∃ (x : Nest) (P : Nat), x.At W ∧ x.Ok P ∧ n1 ≤ x.N P ∧ x.D = worldB W ∧ ∃ d, AbsOk P 0 n1 d (.slice a1 n1 c1) := by
      rcases z1 with h' | ⟨b, o, rfl, hb, hr⟩
      · subst h'
        obtain ⟨x, g1, g2, g3, g4⟩ := nest_of (W := W) (b := 0) (o := 0) (n := 0) (fun i hi => absurd hi (Nat.not_lt_zero i))
        exact ⟨x, _, g1, g2, Nat.zero_le _, g4, 0, AbsOk.none⟩
      · obtain ⟨x, g1, g2, g3, g4⟩ := nest_of hr
        have hc : n1 ≤ c1 := by
          rcases s1 with ⟨h, _⟩ | ⟨_, _, _, hc, _⟩
          · cases h
          · exact hc
        exact ⟨x, _, g1, g2, Nat.le_of_eq g3.symm, g4, c1, AbsOk.of hc⟩
    obtain ⟨d, hv⟩ := hv
    obtain ⟨y, hu, k1, k2, k3⟩ : ∃ y : KY, AbsOk y.Q 0 y.n y.c (.slice a0 n0 c0) ∧ Byt (WK x y) ∧ y.n = (WK x y).length ∧ y.n ≤ y.c := by
      rcases z0 with h | ⟨b, o, f, rfl, hb, hf⟩
      · subst h
        refine ⟨⟨plc 0 0, 0, 0⟩, AbsOk.none, ?_, ?_, Nat.le_refl _⟩
        · show Byt (((x.D (plc 0 0)).drop 0).take 0)
          rw [List.take_zero]
          exact fun z hz => by cases hz
        · show 0 = (((x.D (plc 0 0)).drop 0).take 0).length
          rw [List.take_zero]; rfl
      · have hc : n0 ≤ c0 := by
          rcases s0 with ⟨h, _⟩ | ⟨_, _, _, hc, _⟩
          · cases h
          · exact hc
        by_cases h0 : n0 = 0
        · subst h0
          refine ⟨⟨plc 0 0, 0, 0⟩, AbsOk.none, ?_, ?_, Nat.le_refl _⟩
          · show Byt (((x.D (plc 0 0)).drop 0).take 0)
            rw [List.take_zero]
            exact fun z hz => by cases hz
          · show 0 = (((x.D (plc 0 0)).drop 0).take 0).length
            rw [List.take_zero]; rfl
        · obtain ⟨q1, q2⟩ := worldB_row hf h0
          refine ⟨⟨plc b o, n0, c0⟩, AbsOk.of hc, ?_, ?_, hc⟩
          · show Byt (((x.D (plc b o)).drop 0).take n0)
            rw [List.drop_zero, h4]; exact q2
          · show n0 = (((x.D (plc b o)).drop 0).take n0).length
            rw [List.drop_zero, h4]; exact q1.symm
    exact kc.parts h1 hW h2 h3 hu hv k1 k2 k3
end
end kd
end Go.Proofs.Ytphiebmgeiekaaa
