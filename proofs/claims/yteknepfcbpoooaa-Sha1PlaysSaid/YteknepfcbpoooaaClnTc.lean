/- Read off the code by the clean reading. -/
import Derived.Test.YteknepfcbpoooaaClnTb
set_option linter.unusedVariables false
set_option linter.unusedSimpArgs false
set_option linter.deprecated false
set_option maxRecDepth 100000
namespace Go.Proofs.Yteknepfcbpoooaa
open Go.ChangeShapes Go.WideShapes Go.ChangeAt Go.RowKit Go.Cln
namespace tc
open hc hx hy hz tb
set_option linter.unusedVariables false
noncomputable section
noncomputable def r11z (D : HS → Nat → sw.N5) (g : Option Nat) (c : Nat) : Option (Value × St) := (mk Try.prog (KH AB D) 300).call 11 [.slice (some ⟨0, 0, g⟩) 0 c] (smSt 1 [none] [])
noncomputable def r11n (D : HS → Nat → sw.N5) : Option (Value × St) := (mk Try.prog (KH AB D) 300).call 11 [.slice none 0 0] (smSt 0 [] [])
noncomputable def FZ (B : BF) (f : FuncId) (args : List Value) (s : St) : Option Inst := match ta.F20 f args s with
  | some i => some i
  | none => F15 B f args s
theorem FZ_ok (B : BF) (f : FuncId) (args : List Value) (s : St) (i : Inst) (h : FZ B f args s = some i) : Fits s i args ∧ (i.ask → CallOk Try.prog f i.args i.s0 i.val i.s1) := by
  unfold FZ at h
  split at h
  · rename_i j h1
    cases h; exact ta.F20_ok f args s _ h1
  · exact F15_ok B f args s _ h
noncomputable def r12z (B : BF) (g : Option Nat) (c : Nat) : Option (Value × St) := (mk Try.prog (Given.frames Given.nothing (FZ B)) 300).call 12 [.slice (some ⟨0, 0, g⟩) 0 c] (smSt 1 [none] [])
noncomputable def r12n (B : BF) : Option (Value × St) := (mk Try.prog (Given.frames Given.nothing (FZ B)) 300).call 12 [.slice none 0 0] (smSt 0 [] [])
end
end tc
end Go.Proofs.Yteknepfcbpoooaa
namespace Go.Proofs.Yteknepfcbpoooaa
open Go.ChangeShapes Go.WideShapes Go.ChangeAt Go.RowKit Go.Cln
namespace tc
open hc hx hy hz tb
set_option linter.unusedVariables false
noncomputable section
noncomputable def p11z (D : HS → Nat → sw.N5) : Prop := True ∧ (D = DS ∧ 0 ≤ intAt l0 70 ∧ intAt l0 70 ≤ 1152921504606846976 ∧ intAt l0 64 = (((intAt l0 70).toNat % 64 : Nat) : Int))
noncomputable def nn (k : Nat) : List (Option Ob) := List.replicate k none
theorem run11za (D : HS → Nat → sw.N5) (c : Nat) : (r11z D none c).map (fun r => (r.1, r.2.obl, r.2.next, keepL (List.replicate 29 false) r.2.heap.get 0)) = some (outV (D (hOf l0) (intAt l0 70).toNat), p11z D, (nn 29).length, nn 29) := by kernel_rfl
theorem run11zb (D : HS → Nat → sw.N5) (c : Nat) : (r11z D (some 1) c).map (fun r => (r.1, r.2.obl, r.2.next, keepL (List.replicate 29 false) r.2.heap.get 0)) = some (outV (D (hOf l0) (intAt l0 70).toNat), p11z D, (nn 29).length, nn 29) := by kernel_rfl
theorem run11n (D : HS → Nat → sw.N5) : (r11n D).map (fun r => (r.1, r.2.obl, r.2.next, keepL (List.replicate 28 false) r.2.heap.get 0)) = some (outV (D (hOf l0) (intAt l0 70).toNat), p11z D, (nn 28).length, nn 28) := by kernel_rfl
theorem z_val : outV (DS (hOf l0) (intAt l0 70).toNat) = outV (shaN []) := by
  have := SemH.zero.DS (fun x hx => by cases hx)
  exact congrArg outV this
theorem p11z_ok : p11z DS := ⟨trivial, rfl, by decide, by decide, by decide⟩
noncomputable def YY : List Int := List.take (0 + 0) (List.drop 0 []) ++ List.take (tl 0) (List.drop 0 (T 0))
noncomputable def p12z (B : BF) : Prop := ((True ∧ 0 ≤ 1152921504606846976) ∧ (0 + tl 0 ≤ (T 0).length ∧ 0 + (0 + 0) ≤ 0 ∧ (0 + 0 + tl 0) * 1 ≤ mostBytes ∧ 0 + 0 + tl 0 ≤ mostBytes)) ∧ (B = sw.blkR ∧ (IntKind.i64.wrap (0 + 64)).toNat - Int.toNat 0 = 64 ∧ (List.take 64 (List.drop (0 + Int.toNat 0 * 1) YY)).length = 64)
theorem run12za (B : BF) (c : Nat) : (r12z B none c).map (fun r => (r.1, r.2.obl, r.2.next, keepL (List.replicate 25 false) r.2.heap.get 0)) = some (outR (B F0 (ch (List.take 64 (List.drop (0 + Int.toNat 0 * 1) YY)))), p12z B, (nn 25).length, nn 25) := by kernel_rfl
theorem run12zb (B : BF) (c : Nat) : (r12z B (some 1) c).map (fun r => (r.1, r.2.obl, r.2.next, keepL (List.replicate 25 false) r.2.heap.get 0)) = some (outR (B F0 (ch (List.take 64 (List.drop (0 + Int.toNat 0 * 1) YY)))), p12z B, (nn 25).length, nn 25) := by kernel_rfl
theorem run12n (B : BF) : (r12n B).map (fun r => (r.1, r.2.obl, r.2.next, keepL (List.replicate 24 false) r.2.heap.get 0)) = some (outR (B F0 (ch (List.take 64 (List.drop (0 + Int.toNat 0 * 1) YY)))), p12z B, (nn 24).length, nn 24) := by kernel_rfl
theorem YY_eq : List.take 64 (List.drop (0 + Int.toNat 0 * 1) YY) = T 0 := by
  have h := T_len 0
  have ht : tl 0 = 64 := by decide
  unfold YY
  simp only [Nat.add_zero, List.take_zero, List.nil_append, Int.toNat_zero, Nat.zero_mul, List.drop_zero]
  rw [ht, List.take_take, Nat.min_self, List.take_of_length_le (by omega)]
theorem p12z_ok : p12z sw.blkR := by
  have h := T_len 0
  have ht : tl 0 = 64 := by decide
  unfold p12z
  rw [YY_eq, h, ht]
  exact ⟨⟨⟨trivial, by decide⟩, by decide, by decide, by decide, by decide⟩, rfl, by decide, rfl⟩
theorem z_valR : outR (sw.blkR F0 (ch (List.take 64 (List.drop (0 + Int.toNat 0 * 1) YY)))) = outV (shaN []) := by
  rw [out_eq (blkR_ok _ _), YY_eq]
  have ht : tl 0 = 64 := by decide
  have e : shaN [] = sw.blkR F0 (ch ((T 0).take 64)) := by
    unfold shaN
    show fold sw.blkR F0 ((0 + tl 0) / 64) (T 0) = _
    rw [ht]; rfl
  rw [e, List.take_of_length_le (by rw [T_len, ht]; exact Nat.le_refl _)]
def FN (D : List Int → sw.N5) (f : FuncId) (args : List Value) (s : St) : Option Inst := if f == 11 then match args with
  | [.slice none 0 0] => some ⟨[], 0, [], [.slice none 0 0], outV (D []), nn 28, D = shaN⟩
  | [.slice (some ⟨b, o, g⟩) 0 c] => if gOk g = true then some ⟨[(b, o)], 1, [none], [.slice (some ⟨0, 0, g⟩) 0 c], outV (D []), nn 29, D = shaN⟩ else none
  | _ => none else if f == 12 then match args with
  | [.slice none 0 0] => some ⟨[], 0, [], [.slice none 0 0], outV (D []), nn 24, D = shaN⟩
  | [.slice (some ⟨b, o, g⟩) 0 c] => if gOk g = true then some ⟨[(b, o)], 1, [none], [.slice (some ⟨0, 0, g⟩) 0 c], outV (D []), nn 25, D = shaN⟩ else none
  | _ => none else none
theorem fitN {s : St} {b o : Nat} {g : Option Nat} {c : Nat} {i : Inst} (hw : i.win = [(b, o)]) (hh : i.heap = [none]) (ha : i.args = [.slice (some ⟨0, 0, g⟩) 0 c]) (hg : gOk g = true) : Fits s i [.slice (some ⟨b, o, g⟩) 0 c] := by
  refine ⟨?_, fun j pp ob h1 h2 => ?_⟩
  · rw [ha]
    have e1 : i.nu s.next 0 = b := by unfold Inst.nu; rw [hw]; rfl
    have e2 : i.del 0 = o := by unfold Inst.del; rw [hw]; rfl
    have e : [Value.slice (some ⟨b, o, g⟩) 0 c] = [Value.slice (some ⟨i.nu s.next 0, addO (i.del 0) 0, g⟩) 0 c] := by rw [e1, e2, addO_eq]; rfl
    rcases gOk_eq hg with rfl | rfl <;> exact e
  · rw [hh] at h2
    rcases j with _ | j
    · simp at h2
    · simp at h2
theorem FN_ok (D : List Int → sw.N5) (f : FuncId) (args : List Value) (s : St) (i : Inst) (h : FN D f args s = some i) : Fits s i args ∧ (i.ask → CallOk Try.prog f i.args i.s0 i.val i.s1) := by
  unfold FN at h
  split at h
  · rename_i hf
    have hf' : f = 11 := by simpa using hf
    subst hf'
    split at h
    · cases h
      refine ⟨⟨rfl, fun j p ob hp ho => by simp at hp⟩, fun ha => ?_⟩
      cases ha
      have := frame_by sw.pg (KH_ok AB DS) _ (run11n DS) p11z_ok (by rfl) rfl
      rw [z_val] at this; exact this
    · split at h
      · rename_i b o g c hg
        cases h
        refine ⟨fitN rfl rfl rfl hg, fun ha => ?_⟩
        cases ha
        rcases gOk_eq hg with rfl | rfl
        · have := frame_by sw.pg (KH_ok AB DS) _ (run11za DS c) p11z_ok (by rfl) rfl
          rw [z_val] at this; exact this
        · have := frame_by sw.pg (KH_ok AB DS) _ (run11zb DS c) p11z_ok (by rfl) rfl
          rw [z_val] at this; exact this
      · cases h
    · cases h
  · split at h
    · rename_i hf
      have hf' : f = 12 := by simpa using hf
      subst hf'
      split at h
      · cases h
        refine ⟨⟨rfl, fun j p ob hp ho => by simp at hp⟩, fun ha => ?_⟩
        cases ha
        have := frame_by sw.pg ((GivenOk.nothing _).frames (FZ_ok sw.blkR)) _ (run12n sw.blkR) p12z_ok (by rfl) rfl
        rw [z_valR] at this; exact this
      · split at h
        · rename_i b o g c hg
          cases h
          refine ⟨fitN rfl rfl rfl hg, fun ha => ?_⟩
          cases ha
          rcases gOk_eq hg with rfl | rfl
          · have := frame_by sw.pg ((GivenOk.nothing _).frames (FZ_ok sw.blkR)) _ (run12za sw.blkR c) p12z_ok (by rfl) rfl
            rw [z_valR] at this; exact this
          · have := frame_by sw.pg ((GivenOk.nothing _).frames (FZ_ok sw.blkR)) _ (run12zb sw.blkR c) p12z_ok (by rfl) rfl
            rw [z_valR] at this; exact this
        · cases h
      · cases h
    · cases h
def F10 (f : FuncId) (args : List Value) (s : St) : Option Inst := if f == 10 then match args with
  | [] => some ⟨[], 0, [], [], .bool true, [], True⟩
  | _ => none else none
def FD (D : List Int → sw.N5) (f : FuncId) (args : List Value) (s : St) : Option Inst := match F11 D f args s with
  | some i => some i
  | none => match F12 D f args s with
    | some i => some i
    | none => match FN D f args s with
      | some i => some i
      | none => F10 f args s
theorem works_ok : CallOk Try.prog 10 [] (smSt 0 [] []) (.bool true) (smSt 0 [] []) := CallOk.of_below sw.known rfl rfl _
def KD (D : List Int → sw.N5) : Given := { Given.frames Given.nothing (FD D) with fits := true }
noncomputable def r3 (D : List Int → sw.N5) (L : List Int) (n c : Nat) (o : List (Option Bool)) : Option (Value × St) := (mk Try.prog (KD D) 300).call 3 [.slice (some ⟨0, 0, none⟩) n c] (smSt 1 (hB L) o)
noncomputable def r7 (D : List Int → sw.N5) (k : Int) (L : List Int) (n c : Nat) (o : List (Option Bool)) : Option (Value × St) := (mk Try.prog (KD D) 300).call 7 [.int .i64 k, .slice (some ⟨0, 0, none⟩) n c] (smSt 1 (hB L) o)
end
end tc
end Go.Proofs.Yteknepfcbpoooaa
