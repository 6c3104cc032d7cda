/- Read off the code by the clean reading. -/
import Derived.Test.YtphiebmgeiekaaaClnTb
set_option linter.unusedVariables false
set_option linter.unusedSimpArgs false
set_option linter.deprecated false
set_option maxRecDepth 100000
namespace Go.Proofs.Ytphiebmgeiekaaa
open Go.ChangeShapes Go.WideShapes Go.ChangeAt Go.RowKit Go.Cln
namespace tc
open hc hx hy hz tb
set_option linter.unusedVariables false
noncomputable section
noncomputable def r11z (D : HS → Nat → sw.N5) (g : Option Nat) (c : Nat) : Option (Value × St) := (mk Try.prog (KH AB D) 300).call 15 [.slice (some ⟨0, 0, g⟩) 0 c] (smSt 1 [none] [])
noncomputable def r11n (D : HS → Nat → sw.N5) : Option (Value × St) := (mk Try.prog (KH AB D) 300).call 15 [.slice none 0 0] (smSt 0 [] [])
noncomputable def FZ (B : BF) (f : FuncId) (args : List Value) (s : St) : Option Inst := match ta.F20 f args s with
  | some i => some i
  | none => F15 B f args s
theorem FZ_ok (B : BF) (f : FuncId) (args : List Value) (s : St) (i : Inst) (h : FZ B f args s = some i) : Fits s i args ∧ (i.ask → CallOk Try.prog f i.args i.s0 i.val i.s1) := by
  unfold FZ at h
  split at h
  · rename_i j h1
    cases h; exact ta.F20_ok f args s _ h1
  · exact F15_ok B f args s _ h
noncomputable def r12z (B : BF) (g : Option Nat) (c : Nat) : Option (Value × St) := (mk Try.prog (Given.frames Given.nothing (FZ B)) 300).call 20 [.slice (some ⟨0, 0, g⟩) 0 c] (smSt 1 [none] [])
noncomputable def r12n (B : BF) : Option (Value × St) := (mk Try.prog (Given.frames Given.nothing (FZ B)) 300).call 20 [.slice none 0 0] (smSt 0 [] [])
end
end tc
end Go.Proofs.Ytphiebmgeiekaaa
namespace Go.Proofs.Ytphiebmgeiekaaa
open Go.ChangeShapes Go.WideShapes Go.ChangeAt Go.RowKit Go.Cln
namespace tc
open hc hx hy hz tb
set_option linter.unusedVariables false
noncomputable section
noncomputable def p11z (D : HS → Nat → sw.N5) : Prop := True ∧ (D = DS ∧ 0 ≤ intAt l0 70 ∧ intAt l0 70 ≤ 1152921504606846976 ∧ intAt l0 64 = (((intAt l0 70).toNat % 64 : Nat) : Int))
noncomputable def nn (k : Nat) : List (Option Ob) := List.replicate k none
theorem run11za (D : HS → Nat → sw.N5) (c : Nat) : (r11z D none c).map (fun r => (r.1, r.2.obl, r.2.next, keepL (List.replicate 29 false) r.2.heap.get 0)) = some (outV (D (hOf l0) (intAt l0 70).toNat), p11z D, (nn 29).length, nn 29) := by kernel_rfl
theorem run11zb (D : HS → Nat → sw.N5) (c : Nat) : (r11z D (some 1) c).map (fun r => (r.1, r.2.obl, r.2.next, keepL (List.replicate 29 false) r.2.heap.get 0)) = some (outV (D (hOf l0) (intAt l0 70).toNat), p11z D, (nn 29).length, nn 29) := by kernel_rfl
theorem run11n (D : HS → Nat → sw.N5) : (r11n D).map (fun r => (r.1, r.2.obl, r.2.next, keepL (List.replicate 28 false) r.2.heap.get 0)) = some (outV (D (hOf l0) (intAt l0 70).toNat), p11z D, (nn 28).length, nn 28) := by kernel_rfl
theorem z_val : outV (DS (hOf l0) (intAt l0 70).toNat) = outV (shaN []) := by
  have := SemH.zero.DS (fun x hx => by cases hx)
  exact congrArg outV this
theorem p11z_ok : p11z DS := ⟨trivial, rfl, by decide, by decide, by decide⟩
noncomputable def YY : List Int := List.take (0 + 0) (List.drop 0 []) ++ List.take (tl 0) (List.drop 0 (T 0))
noncomputable def p12z (B : BF) : Prop := ((True ∧ 0 ≤ 1152921504606846976) ∧ (0 + tl 0 ≤ (T 0).length ∧ 0 + (0 + 0) ≤ 0 ∧ (0 + 0 + tl 0) * 1 ≤ mostBytes ∧ 0 + 0 + tl 0 ≤ mostBytes)) ∧ (B = sw.blkR ∧ (IntKind.i64.wrap (0 + 64)).toNat - Int.toNat 0 = 64 ∧ (List.take 64 (List.drop (0 + Int.toNat 0 * 1) YY)).length = 64)
theorem run12za (B : BF) (c : Nat) : (r12z B none c).map (fun r => (r.1, r.2.obl, r.2.next, keepL (List.replicate 25 false) r.2.heap.get 0)) = some (outR (B F0 (ch (List.take 64 (List.drop (0 + Int.toNat 0 * 1) YY)))), p12z B, (nn 25).length, nn 25) := by kernel_rfl
theorem run12zb (B : BF) (c : Nat) : (r12z B (some 1) c).map (fun r => (r.1, r.2.obl, r.2.next, keepL (List.replicate 25 false) r.2.heap.get 0)) = some (outR (B F0 (ch (List.take 64 (List.drop (0 + Int.toNat 0 * 1) YY)))), p12z B, (nn 25).length, nn 25) := by kernel_rfl
theorem run12n (B : BF) : (r12n B).map (fun r => (r.1, r.2.obl, r.2.next, keepL (List.replicate 24 false) r.2.heap.get 0)) = some (outR (B F0 (ch (List.take 64 (List.drop (0 + Int.toNat 0 * 1) YY)))), p12z B, (nn 24).length, nn 24) := by kernel_rfl
theorem YY_eq : List.take 64 (List.drop (0 + Int.toNat 0 * 1) YY) = T 0 := by
  have h := T_len 0
  have ht : tl 0 = 64 := by decide
  unfold YY
  simp only [Nat.add_zero, List.take_zero, List.nil_append, Int.toNat_zero, Nat.zero_mul, List.drop_zero]
  rw [ht, List.take_take, Nat.min_self, List.take_of_length_le (by omega)]
theorem p12z_ok : p12z sw.blkR := by
  have h := T_len 0
  have ht : tl 0 = 64 := by decide
  unfold p12z
  rw [YY_eq, h, ht]
  exact ⟨⟨⟨trivial, by decide⟩, by decide, by decide, by decide, by decide⟩, rfl, by decide, rfl⟩
theorem z_valR : outR (sw.blkR F0 (ch (List.take 64 (List.drop (0 + Int.toNat 0 * 1) YY)))) = outV (shaN []) := by
  rw [out_eq (blkR_ok _ _), YY_eq]
  have ht : tl 0 = 64 := by decide
  have e : shaN [] = sw.blkR F0 (ch ((T 0).take 64)) := by
    unfold shaN
    show fold sw.blkR F0 ((0 + tl 0) / 64) (T 0) = _
    rw [ht]; rfl
  rw [e, List.take_of_length_le (by rw [T_len, ht]; exact Nat.le_refl _)]
/-- sums of nothing, told -/
def FN (D : List Int → sw.N5) (f : FuncId) (args : List Value) (s : St) : Option Inst := if f == 15 then match args with
  | [.slice none 0 0] => some ⟨[], 0, [], [.slice none 0 0], outV (D []), nn 28, D = shaN⟩
  | [.slice (some ⟨b, o, g⟩) 0 c] => if gOk g = true then some ⟨[(b, o)], 1, [none], [.slice (some ⟨0, 0, g⟩) 0 c], outV (D []), nn 29, D = shaN⟩ else none
  | _ => none else if f == 20 then match args with
  | [.slice none 0 0] => some ⟨[], 0, [], [.slice none 0 0], outV (D []), nn 24, D = shaN⟩
  | [.slice (some ⟨b, o, g⟩) 0 c] => if gOk g = true then some ⟨[(b, o)], 1, [none], [.slice (some ⟨0, 0, g⟩) 0 c], outV (D []), nn 25, D = shaN⟩ else none
  | _ => none else none
theorem fitN {s : St} {b o : Nat} {g : Option Nat} {c : Nat} {i : Inst} (hw : i.win = [(b, o)]) (hh : i.heap = [none]) (ha : i.args = [.slice (some ⟨0, 0, g⟩) 0 c]) (hg : gOk g = true) : Fits s i [.slice (some ⟨b, o, g⟩) 0 c] := by
  refine ⟨?_, fun j pp ob h1 h2 => ?_⟩
  · rw [ha]
    have e1 : i.nu s.next 0 = b := by unfold Inst.nu; rw [hw]; rfl
    have e2 : i.del 0 = o := by unfold Inst.del; rw [hw]; rfl
    have e : [Value.slice (some ⟨b, o, g⟩) 0 c] = [Value.slice (some ⟨i.nu s.next 0, addO (i.del 0) 0, g⟩) 0 c] := by rw [e1, e2, addO_eq]; rfl
    rcases gOk_eq hg with rfl | rfl <;> exact e
  · rw [hh] at h2
    rcases j with _ | j
    · simp at h2
    · simp at h2
theorem FN_ok (D : List Int → sw.N5) (f : FuncId) (args : List Value) (s : St) (i : Inst) (h : FN D f args s = some i) : Fits s i args ∧ (i.ask → CallOk Try.prog f i.args i.s0 i.val i.s1) := by
  unfold FN at h
  split at h
  · rename_i hf
    have hf' : f = 15 := by simpa using hf
    subst hf'
    split at h
    · cases h
      refine ⟨⟨rfl, fun j p ob hp ho => by simp at hp⟩, fun ha => ?_⟩
      cases ha
      have := frame_by sw.pg (KH_ok AB DS) _ (run11n DS) p11z_ok (by rfl) rfl
      rw [z_val] at this; exact this
    · split at h
      · rename_i b o g c hg
        cases h
        refine ⟨fitN rfl rfl rfl hg, fun ha => ?_⟩
        cases ha
        rcases gOk_eq hg with rfl | rfl
        · have := frame_by sw.pg (KH_ok AB DS) _ (run11za DS c) p11z_ok (by rfl) rfl
          rw [z_val] at this; exact this
        · have := frame_by sw.pg (KH_ok AB DS) _ (run11zb DS c) p11z_ok (by rfl) rfl
          rw [z_val] at this; exact this
      · cases h
    · cases h
  · split at h
    · rename_i hf
      have hf' : f = 20 := by simpa using hf
      subst hf'
      split at h
      · cases h
        refine ⟨⟨rfl, fun j p ob hp ho => by simp at hp⟩, fun ha => ?_⟩
        cases ha
        have := frame_by sw.pg ((GivenOk.nothing _).frames (FZ_ok sw.blkR)) _ (run12n sw.blkR) p12z_ok (by rfl) rfl
        rw [z_valR] at this; exact this
      · split at h
        · rename_i b o g c hg
          cases h
          refine ⟨fitN rfl rfl rfl hg, fun ha => ?_⟩
          cases ha
          rcases gOk_eq hg with rfl | rfl
          · have := frame_by sw.pg ((GivenOk.nothing _).frames (FZ_ok sw.blkR)) _ (run12za sw.blkR c) p12z_ok (by rfl) rfl
            rw [z_valR] at this; exact this
          · have := frame_by sw.pg ((GivenOk.nothing _).frames (FZ_ok sw.blkR)) _ (run12zb sw.blkR c) p12z_ok (by rfl) rfl
            rw [z_valR] at this; exact this
        · cases h
      · cases h
    · cases h
def FD (D : List Int → sw.N5) (f : FuncId) (args : List Value) (s : St) : Option Inst := match F11 D f args s with
  | some i => some i
  | none => match F12 D f args s with
    | some i => some i
    | none => FN D f args s
theorem FD_ok (D : List Int → sw.N5) (f : FuncId) (args : List Value) (s : St) (i : Inst) (h : FD D f args s = some i) : Fits s i args ∧ (i.ask → CallOk Try.prog f i.args i.s0 i.val i.s1) := by
  unfold FD at h
  split at h
  · rename_i j h1
    cases h; exact F11_ok D f args s _ h1
  · split at h
    · rename_i j h1
      cases h; exact F12_ok D f args s _ h1
    · exact FN_ok D f args s _ h
def KD (D : List Int → sw.N5) : Given := { Given.frames Given.nothing (FD D) with fits := true }
theorem KD_ok (D : List Int → sw.N5) : GivenOk Try.prog (KD D) := frames_fits ((GivenOk.nothing _).frames (FD_ok D)) true
end
end tc
end Go.Proofs.Ytphiebmgeiekaaa
namespace Go.Proofs.Ytphiebmgeiekaaa
open Go.ChangeShapes Go.WideShapes Go.ChangeAt Go.RowKit Go.Cln
namespace td
open hc hx hy hz tb tc
set_option linter.unusedVariables false
noncomputable section
noncomputable def r22n (h : HS) (sz : Int) : Option (Value × St) := (mk Try.prog Given.nothing 300).call 35 [.pointer (some ⟨0, 0, none⟩), .slice none 0 0] (smSt 0 [some (objH h sz)] [])
noncomputable def r22z (h : HS) (sz : Int) (c : Nat) : Option (Value × St) := (mk Try.prog Given.nothing 300).call 35 [.pointer (some ⟨1, 0, none⟩), .slice (some ⟨0, 0, none⟩) 0 c] (smSt 1 [none, some (objH h sz)] [])
noncomputable def w0 (sz : Int) : Int := IntKind.i64.wrap (sz + ((0 : Nat) : Int))
theorem run22n (h : HS) (sz : Int) : (r22n h sz).map (fun r => (r.1, r.2.obl, r.2.next, keepL (true :: List.replicate 6 false) r.2.heap.get 0)) =
    some (.int .i64 0, True, (some (objH h (w0 sz)) :: nn 6).length, some (objH h (w0 sz)) :: nn 6) := by kernel_rfl
theorem run22z (h : HS) (sz : Int) (c : Nat) : (r22z h sz c).map (fun r => (r.1, r.2.obl, r.2.next, keepL (false :: true :: List.replicate 6 false) r.2.heap.get 0)) =
    some (.int .i64 0, True, (none :: some (objH h (w0 sz)) :: nn 6).length, none :: some (objH h (w0 sz)) :: nn 6) := by kernel_rfl
/-- a Write of nothing, told -/
def FW (f : FuncId) (args : List Value) (s : St) : Option Inst := if f == 35 then match args with
  | [.pointer (some ⟨p, 0, none⟩), .slice none 0 0] => match s.heap.get p with
    | some (.cells (.lit l) _) => if okH l = true then
        some ⟨[(p, 0)], 0, [some (.cells (.lit l) 77)], [.pointer (some ⟨0, 0, none⟩), .slice none 0 0], .int .i64 0, some (objH (hOf l) (w0 (intAt l 70))) :: nn 6, True⟩
      else none
    | _ => none
  | [.pointer (some ⟨p, 0, none⟩), .slice (some ⟨b, o, none⟩) 0 c] => match s.heap.get p with
    | some (.cells (.lit l) _) => if okH l = true then
        some ⟨[(b, o), (p, 0)], 1, [none, some (.cells (.lit l) 77)], [.pointer (some ⟨1, 0, none⟩), .slice (some ⟨0, 0, none⟩) 0 c], .int .i64 0, none :: some (objH (hOf l) (w0 (intAt l 70))) :: nn 6, True⟩
      else none
    | _ => none
  | _ => none else none
theorem FW_ok (f : FuncId) (args : List Value) (s : St) (i : Inst) (h : FW f args s = some i) : Fits s i args ∧ (i.ask → CallOk Try.prog f i.args i.s0 i.val i.s1) := by
  unfold FW at h
  split at h
  · rename_i hf
    have hf' : f = 35 := by simpa using hf
    subst hf'
    split at h
    · rename_i p
      split at h
      · rename_i l tp hp
        split at h
        · rename_i hok
          cases h
          have hl := okH_eq hok
          refine ⟨⟨rfl, fun j pp ob h1 h2 => ?_⟩, fun _ => ?_⟩
          · rcases j with _ | j
            · simp only [List.getElem?_cons_zero, Option.some.injEq] at h1
              subst h1
              simp only [List.getElem?_cons_zero, Option.some.injEq] at h2
              subst h2
              exact ⟨_, hp, fit_flat (fun x v hx => by rw [Nat.zero_add]; exact hx) (by rw [hl]; exact cH_flat _ _)⟩
            · simp at h1
          · have := frame_by sw.pg (GivenOk.nothing _) _ (run22n (hOf l) (intAt l 70)) trivial (by rfl) rfl
            have e : objH (hOf l) (intAt l 70) = .cells (.lit l) 77 := by unfold objH; rw [← hl]
            rw [e] at this
            exact this
        · cases h
      · cases h
    · rename_i p b o c
      split at h
      · rename_i l tp hp
        split at h
        · rename_i hok
          cases h
          have hl := okH_eq hok
          refine ⟨⟨?_, fun j pp ob h1 h2 => ?_⟩, fun _ => ?_⟩
          · show [Value.pointer (some ⟨p, 0, none⟩), .slice (some ⟨b, o, none⟩) 0 c] = [.pointer (some ⟨p, 0, none⟩), .slice (some ⟨b, addO o 0, none⟩) 0 c]
            rw [addO_eq]; rfl
          · rcases j with _ | _ | j
            · simp at h2
            · simp only [Nat.zero_add, List.getElem?_cons_succ, List.getElem?_cons_zero, Option.some.injEq] at h1
              subst h1
              simp only [Nat.zero_add, List.getElem?_cons_succ, List.getElem?_cons_zero, Option.some.injEq] at h2
              subst h2
              exact ⟨_, hp, fit_flat (fun x v hx => by rw [Nat.zero_add]; exact hx) (by rw [hl]; exact cH_flat _ _)⟩
            · simp at h1
          · have := frame_by sw.pg (GivenOk.nothing _) _ (run22z (hOf l) (intAt l 70) c) trivial (by rfl) rfl
            have e : objH (hOf l) (intAt l 70) = .cells (.lit l) 77 := by unfold objH; rw [← hl]
            rw [e] at this
            exact this
        · cases h
      · cases h
    · cases h
  · cases h
/-- all that is told -/
def FA (D : List Int → sw.N5) (A : List Int → HS → HS) (E : HS → Nat → sw.N5) (f : FuncId) (args : List Value) (s : St) : Option Inst := match FD D f args s with
  | some i => some i
  | none => match FH A E f args s with
    | some i => some i
    | none => FW f args s
theorem FA_ok (D : List Int → sw.N5) (A : List Int → HS → HS) (E : HS → Nat → sw.N5) (f : FuncId) (args : List Value) (s : St) (i : Inst) (h : FA D A E f args s = some i) : Fits s i args ∧ (i.ask → CallOk Try.prog f i.args i.s0 i.val i.s1) := by
  unfold FA at h
  split at h
  · rename_i j h1
    cases h; exact FD_ok D f args s _ h1
  · split at h
    · rename_i j h1
      cases h; exact FH_ok A E f args s _ h1
    · exact FW_ok f args s _ h
def KA (D : List Int → sw.N5) (A : List Int → HS → HS) (E : HS → Nat → sw.N5) : Given := { Given.frames Given.nothing (FA D A E) with fits := true }
theorem KA_ok (D : List Int → sw.N5) (A : List Int → HS → HS) (E : HS → Nat → sw.N5) : GivenOk Try.prog (KA D A E) := frames_fits ((GivenOk.nothing _).frames (FA_ok D A E)) true
end
end td
end Go.Proofs.Ytphiebmgeiekaaa
