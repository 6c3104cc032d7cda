/- Read off the code by the clean reading. -/
import Derived.Test.YtmgelikgcfjhhaaGreatClnTa
set_option linter.unusedVariables false
set_option linter.unusedSimpArgs false
set_option linter.deprecated false
set_option maxRecDepth 100000
namespace Go.Proofs.YtmgelikgcfjhhaaGreat
open Go.ChangeShapes Go.WideShapes Go.ChangeAt Go.RowKit Go.Cln
namespace tc
open hc hx hy hz tb
set_option linter.unusedVariables false
noncomputable section
noncomputable def r11z (D : HS → Nat → sw.N5) (g : Option Nat) (c : Nat) : Option (Value × St) := (mk Tryz.prog (KH AB D) 300).call 135 [.slice (some ⟨0, 0, g⟩) 0 c] (smSt 1 [none] [])
noncomputable def r11n (D : HS → Nat → sw.N5) : Option (Value × St) := (mk Tryz.prog (KH AB D) 300).call 135 [.slice none 0 0] (smSt 0 [] [])
noncomputable def FZ (B : BF) (f : FuncId) (args : List Value) (s : St) : Option Inst := match ta.F20 f args s with
  | some i => some i
  | none => F15 B f args s
theorem FZ_ok (B : BF) (f : FuncId) (args : List Value) (s : St) (i : Inst) (h : FZ B f args s = some i) : Fits s i args ∧ (i.ask → CallOk Tryz.prog f i.args i.s0 i.val i.s1) := by
  unfold FZ at h
  split at h
  · rename_i j h1
    cases h; exact ta.F20_ok f args s _ h1
  · exact F15_ok B f args s _ h
noncomputable def r12z (B : BF) (g : Option Nat) (c : Nat) : Option (Value × St) := (mk Tryz.prog (Given.frames Given.nothing (FZ B)) 300).call 70 [.slice (some ⟨0, 0, g⟩) 0 c] (smSt 1 [none] [])
noncomputable def r12n (B : BF) : Option (Value × St) := (mk Tryz.prog (Given.frames Given.nothing (FZ B)) 300).call 70 [.slice none 0 0] (smSt 0 [] [])
end
end tc
end Go.Proofs.YtmgelikgcfjhhaaGreat
namespace Go.Proofs.YtmgelikgcfjhhaaGreat
open Go.ChangeShapes Go.WideShapes Go.ChangeAt Go.RowKit Go.Cln
namespace tc
open hc hx hy hz tb
set_option linter.unusedVariables false
noncomputable section
noncomputable def p11z (D : HS → Nat → sw.N5) : Prop := True ∧ (D = DS ∧ 0 ≤ intAt l0 70 ∧ intAt l0 70 ≤ 1152921504606846976 ∧ intAt l0 64 = (((intAt l0 70).toNat % 64 : Nat) : Int))
noncomputable def nn (k : Nat) : List (Option Ob) := List.replicate k none
theorem run11za (D : HS → Nat → sw.N5) (c : Nat) : (r11z D none c).map (fun r => (r.1, r.2.obl, r.2.next, keepL (List.replicate 29 false) r.2.heap.get 0)) = some (outV (D (hOf l0) (intAt l0 70).toNat), p11z D, (nn 29).length, nn 29) := by kernel_rfl
theorem run11zb (D : HS → Nat → sw.N5) (c : Nat) : (r11z D (some 1) c).map (fun r => (r.1, r.2.obl, r.2.next, keepL (List.replicate 29 false) r.2.heap.get 0)) = some (outV (D (hOf l0) (intAt l0 70).toNat), p11z D, (nn 29).length, nn 29) := by kernel_rfl
theorem run11n (D : HS → Nat → sw.N5) : (r11n D).map (fun r => (r.1, r.2.obl, r.2.next, keepL (List.replicate 28 false) r.2.heap.get 0)) = some (outV (D (hOf l0) (intAt l0 70).toNat), p11z D, (nn 28).length, nn 28) := by kernel_rfl
theorem z_val : outV (DS (hOf l0) (intAt l0 70).toNat) = outV (shaN []) := by
  have := SemH.zero.DS (fun x hx => by cases hx)
  exact congrArg outV this
theorem p11z_ok : p11z DS := ⟨trivial, rfl, by decide, by decide, by decide⟩
noncomputable def YY : List Int := List.take (0 + 0) (List.drop 0 []) ++ List.take (tl 0) (List.drop 0 (T 0))
noncomputable def p12z (B : BF) : Prop := ((True ∧ 0 ≤ 1152921504606846976) ∧ (0 + tl 0 ≤ (T 0).length ∧ 0 + (0 + 0) ≤ 0 ∧ (0 + 0 + tl 0) * 1 ≤ mostBytes ∧ 0 + 0 + tl 0 ≤ mostBytes)) ∧ (B = sw.blkR ∧ (IntKind.i64.wrap (0 + 64)).toNat - Int.toNat 0 = 64 ∧ (List.take 64 (List.drop (0 + Int.toNat 0 * 1) YY)).length = 64)
theorem run12za (B : BF) (c : Nat) : (r12z B none c).map (fun r => (r.1, r.2.obl, r.2.next, keepL (List.replicate 25 false) r.2.heap.get 0)) = some (outR (B F0 (ch (List.take 64 (List.drop (0 + Int.toNat 0 * 1) YY)))), p12z B, (nn 25).length, nn 25) := by kernel_rfl
theorem run12zb (B : BF) (c : Nat) : (r12z B (some 1) c).map (fun r => (r.1, r.2.obl, r.2.next, keepL (List.replicate 25 false) r.2.heap.get 0)) = some (outR (B F0 (ch (List.take 64 (List.drop (0 + Int.toNat 0 * 1) YY)))), p12z B, (nn 25).length, nn 25) := by kernel_rfl
theorem run12n (B : BF) : (r12n B).map (fun r => (r.1, r.2.obl, r.2.next, keepL (List.replicate 24 false) r.2.heap.get 0)) = some (outR (B F0 (ch (List.take 64 (List.drop (0 + Int.toNat 0 * 1) YY)))), p12z B, (nn 24).length, nn 24) := by kernel_rfl
theorem YY_eq : List.take 64 (List.drop (0 + Int.toNat 0 * 1) YY) = T 0 := by
  have h := T_len 0
  have ht : tl 0 = 64 := by decide
  unfold YY
  simp only [Nat.add_zero, List.take_zero, List.nil_append, Int.toNat_zero, Nat.zero_mul, List.drop_zero]
  rw [ht, List.take_take, Nat.min_self, List.take_of_length_le (by omega)]
theorem p12z_ok : p12z sw.blkR := by
  have h := T_len 0
  have ht : tl 0 = 64 := by decide
  unfold p12z
  rw [YY_eq, h, ht]
  exact ⟨⟨⟨trivial, by decide⟩, by decide, by decide, by decide, by decide⟩, rfl, by decide, rfl⟩
theorem z_valR : outR (sw.blkR F0 (ch (List.take 64 (List.drop (0 + Int.toNat 0 * 1) YY)))) = outV (shaN []) := by
  rw [out_eq (blkR_ok _ _), YY_eq]
  have ht : tl 0 = 64 := by decide
  have e : shaN [] = sw.blkR F0 (ch ((T 0).take 64)) := by
    unfold shaN
    show fold sw.blkR F0 ((0 + tl 0) / 64) (T 0) = _
    rw [ht]; rfl
  rw [e, List.take_of_length_le (by rw [T_len, ht]; exact Nat.le_refl _)]
def FN (D : List Int → sw.N5) (f : FuncId) (args : List Value) (s : St) : Option Inst := if f == 135 then match args with
  | [.slice none 0 0] => some ⟨[], 0, [], [.slice none 0 0], outV (D []), nn 28, D = shaN⟩
  | [.slice (some ⟨b, o, g⟩) 0 c] => if gOk g = true then some ⟨[(b, o)], 1, [none], [.slice (some ⟨0, 0, g⟩) 0 c], outV (D []), nn 29, D = shaN⟩ else none
  | _ => none else if f == 70 then match args with
  | [.slice none 0 0] => some ⟨[], 0, [], [.slice none 0 0], outV (D []), nn 24, D = shaN⟩
  | [.slice (some ⟨b, o, g⟩) 0 c] => if gOk g = true then some ⟨[(b, o)], 1, [none], [.slice (some ⟨0, 0, g⟩) 0 c], outV (D []), nn 25, D = shaN⟩ else none
  | _ => none else none
theorem fitN {s : St} {b o : Nat} {g : Option Nat} {c : Nat} {i : Inst} (hw : i.win = [(b, o)]) (hh : i.heap = [none]) (ha : i.args = [.slice (some ⟨0, 0, g⟩) 0 c]) : Fits s i [.slice (some ⟨b, o, g⟩) 0 c] := by
  refine ⟨?_, fun j pp ob h1 h2 => ?_⟩
  · rw [ha]
    have e1 : i.nu s.next 0 = b := by unfold Inst.nu; rw [hw]; rfl
    have e2 : i.del 0 = o := by unfold Inst.del; rw [hw]; rfl
    show [Value.slice (some ⟨b, o, g⟩) 0 c] = [Value.slice (some ⟨i.nu s.next 0, addO (i.del 0) 0, g⟩) 0 c]
    rw [e1, e2, addO_eq]; rfl
  · rw [hh] at h2
    rcases j with _ | j
    · simp at h2
    · simp at h2
theorem FN_ok (D : List Int → sw.N5) (f : FuncId) (args : List Value) (s : St) (i : Inst) (h : FN D f args s = some i) : Fits s i args ∧ (i.ask → CallOk Tryz.prog f i.args i.s0 i.val i.s1) := by
  unfold FN at h
  split at h
  · rename_i hf
    have hf' : f = 135 := by simpa using hf
    subst hf'
    split at h
    · cases h
      refine ⟨⟨rfl, fun j p ob hp ho => by simp at hp⟩, fun ha => ?_⟩
      cases ha
      have := frame_by sw.pg (KH_ok AB DS) _ (run11n DS) p11z_ok (by rfl) rfl
      rw [z_val] at this; exact this
    · split at h
      · rename_i b o g c hg
        cases h
        refine ⟨fitN rfl rfl rfl, fun ha => ?_⟩
        cases ha
        rcases gOk_eq hg with rfl | rfl
        · have := frame_by sw.pg (KH_ok AB DS) _ (run11za DS c) p11z_ok (by rfl) rfl
          rw [z_val] at this; exact this
        · have := frame_by sw.pg (KH_ok AB DS) _ (run11zb DS c) p11z_ok (by rfl) rfl
          rw [z_val] at this; exact this
      · cases h
    · cases h
  · split at h
    · rename_i hf
      have hf' : f = 70 := by simpa using hf
      subst hf'
      split at h
      · cases h
        refine ⟨⟨rfl, fun j p ob hp ho => by simp at hp⟩, fun ha => ?_⟩
        cases ha
        have := frame_by sw.pg ((GivenOk.nothing _).frames (FZ_ok sw.blkR)) _ (run12n sw.blkR) p12z_ok (by rfl) rfl
        rw [z_valR] at this; exact this
      · split at h
        · rename_i b o g c hg
          cases h
          refine ⟨fitN rfl rfl rfl, fun ha => ?_⟩
          cases ha
          rcases gOk_eq hg with rfl | rfl
          · have := frame_by sw.pg ((GivenOk.nothing _).frames (FZ_ok sw.blkR)) _ (run12za sw.blkR c) p12z_ok (by rfl) rfl
            rw [z_valR] at this; exact this
          · have := frame_by sw.pg ((GivenOk.nothing _).frames (FZ_ok sw.blkR)) _ (run12zb sw.blkR c) p12z_ok (by rfl) rfl
            rw [z_valR] at this; exact this
        · cases h
      · cases h
    · cases h
def FD (D : List Int → sw.N5) (f : FuncId) (args : List Value) (s : St) : Option Inst := match F11 D f args s with
  | some i => some i
  | none => match F12 D f args s with
    | some i => some i
    | none => FN D f args s
theorem FD_ok (D : List Int → sw.N5) (f : FuncId) (args : List Value) (s : St) (i : Inst) (h : FD D f args s = some i) : Fits s i args ∧ (i.ask → CallOk Tryz.prog f i.args i.s0 i.val i.s1) := by
  unfold FD at h
  split at h
  · rename_i j h1
    cases h; exact F11_ok D f args s _ h1
  · split at h
    · rename_i j h1
      cases h; exact F12_ok D f args s _ h1
    · exact FN_ok D f args s _ h
end
end tc
end Go.Proofs.YtmgelikgcfjhhaaGreat
namespace Go.Proofs.YtmgelikgcfjhhaaGreat
open Go.ChangeShapes Go.WideShapes Go.ChangeAt Go.RowKit Go.Cln
namespace td
open hc hx hy hz tb tc
set_option linter.unusedVariables false
noncomputable section
noncomputable def r22n (h : HS) (sz : Int) : Option (Value × St) := (mk Tryz.prog Given.nothing 300).call 140 [.pointer (some ⟨0, 0, none⟩), .slice none 0 0] (smSt 0 [some (objH h sz)] [])
noncomputable def r22z (h : HS) (sz : Int) (g : Option Nat) (c : Nat) : Option (Value × St) := (mk Tryz.prog Given.nothing 300).call 140 [.pointer (some ⟨1, 0, none⟩), .slice (some ⟨0, 0, g⟩) 0 c] (smSt 1 [none, some (objH h sz)] [])
noncomputable def w0 (sz : Int) : Int := IntKind.i64.wrap (sz + ((0 : Nat) : Int))
theorem run22n (h : HS) (sz : Int) : (r22n h sz).map (fun r => (r.1, r.2.obl, r.2.next, keepL (true :: List.replicate 6 false) r.2.heap.get 0)) =
    some (.int .i64 0, True, (some (objH h (w0 sz)) :: nn 6).length, some (objH h (w0 sz)) :: nn 6) := by kernel_rfl
theorem run22z (h : HS) (sz : Int) (g : Option Nat) (c : Nat) : (r22z h sz g c).map (fun r => (r.1, r.2.obl, r.2.next, keepL (false :: true :: List.replicate 6 false) r.2.heap.get 0)) =
    some (.int .i64 0, True, (none :: some (objH h (w0 sz)) :: nn 6).length, none :: some (objH h (w0 sz)) :: nn 6) := by kernel_rfl
def FW (f : FuncId) (args : List Value) (s : St) : Option Inst := if f == 140 then match args with
  | [.pointer (some ⟨p, 0, none⟩), .slice none 0 0] => match s.heap.get p with
    | some (.cells (.lit l) _) => if okH l = true then
        some ⟨[(p, 0)], 0, [some (.cells (.lit l) 213)], [.pointer (some ⟨0, 0, none⟩), .slice none 0 0], .int .i64 0, some (objH (hOf l) (w0 (intAt l 70))) :: nn 6, True⟩
      else none
    | _ => none
  | [.pointer (some ⟨p, 0, none⟩), .slice (some ⟨b, o, g⟩) 0 c] => match s.heap.get p with
    | some (.cells (.lit l) _) => if okH l = true then
        some ⟨[(b, o), (p, 0)], 1, [none, some (.cells (.lit l) 213)], [.pointer (some ⟨1, 0, none⟩), .slice (some ⟨0, 0, g⟩) 0 c], .int .i64 0, none :: some (objH (hOf l) (w0 (intAt l 70))) :: nn 6, True⟩
      else none
    | _ => none
  | _ => none else none
theorem FW_ok (f : FuncId) (args : List Value) (s : St) (i : Inst) (h : FW f args s = some i) : Fits s i args ∧ (i.ask → CallOk Tryz.prog f i.args i.s0 i.val i.s1) := by
  unfold FW at h
  split at h
  · rename_i hf
    have hf' : f = 140 := by simpa using hf
    subst hf'
    split at h
    · rename_i p
      split at h
      · rename_i l tp hp
        split at h
        · rename_i hok
          cases h
          have hl := okH_eq hok
          refine ⟨⟨rfl, fun j pp ob h1 h2 => ?_⟩, fun _ => ?_⟩
          · rcases j with _ | j
            · simp only [List.getElem?_cons_zero, Option.some.injEq] at h1
              subst h1
              simp only [List.getElem?_cons_zero, Option.some.injEq] at h2
              subst h2
              exact ⟨_, hp, fit_flat (fun x v hx => by rw [Nat.zero_add]; exact hx) (by rw [hl]; exact cH_flat _ _)⟩
            · simp at h1
          · have := frame_by sw.pg (GivenOk.nothing _) _ (run22n (hOf l) (intAt l 70)) trivial (by rfl) rfl
            have e : objH (hOf l) (intAt l 70) = .cells (.lit l) 213 := by unfold objH; rw [← hl]
            rw [e] at this
            exact this
        · cases h
      · cases h
    · rename_i p b o g c
      split at h
      · rename_i l tp hp
        split at h
        · rename_i hok
          cases h
          have hl := okH_eq hok
          refine ⟨⟨?_, fun j pp ob h1 h2 => ?_⟩, fun _ => ?_⟩
          · show [Value.pointer (some ⟨p, 0, none⟩), .slice (some ⟨b, o, g⟩) 0 c] = [.pointer (some ⟨p, 0, none⟩), .slice (some ⟨b, addO o 0, g⟩) 0 c]
            rw [addO_eq]; rfl
          · rcases j with _ | _ | j
            · simp at h2
            · simp only [Nat.zero_add, List.getElem?_cons_succ, List.getElem?_cons_zero, Option.some.injEq] at h1
              subst h1
              simp only [Nat.zero_add, List.getElem?_cons_succ, List.getElem?_cons_zero, Option.some.injEq] at h2
              subst h2
              exact ⟨_, hp, fit_flat (fun x v hx => by rw [Nat.zero_add]; exact hx) (by rw [hl]; exact cH_flat _ _)⟩
            · simp at h1
          · have := frame_by sw.pg (GivenOk.nothing _) _ (run22z (hOf l) (intAt l 70) g c) trivial (by rfl) rfl
            have e : objH (hOf l) (intAt l 70) = .cells (.lit l) 213 := by unfold objH; rw [← hl]
            rw [e] at this
            exact this
        · cases h
      · cases h
    · cases h
  · cases h
def FA (D : List Int → sw.N5) (A : List Int → HS → HS) (E : HS → Nat → sw.N5) (f : FuncId) (args : List Value) (s : St) : Option Inst := match FD D f args s with
  | some i => some i
  | none => match FH A E f args s with
    | some i => some i
    | none => FW f args s
theorem FA_ok (D : List Int → sw.N5) (A : List Int → HS → HS) (E : HS → Nat → sw.N5) (f : FuncId) (args : List Value) (s : St) (i : Inst) (h : FA D A E f args s = some i) : Fits s i args ∧ (i.ask → CallOk Tryz.prog f i.args i.s0 i.val i.s1) := by
  unfold FA at h
  split at h
  · rename_i j h1
    cases h; exact FD_ok D f args s _ h1
  · split at h
    · rename_i j h1
      cases h; exact FH_ok A E f args s _ h1
    · exact FW_ok f args s _ h
def KA (D : List Int → sw.N5) (A : List Int → HS → HS) (E : HS → Nat → sw.N5) : Given := { Given.frames Given.nothing (FA D A E) with fits := true }
theorem KA_ok (D : List Int → sw.N5) (A : List Int → HS → HS) (E : HS → Nat → sw.N5) : GivenOk Tryz.prog (KA D A E) := frames_fits ((GivenOk.nothing _).frames (FA_ok D A E)) true
end
end td
end Go.Proofs.YtmgelikgcfjhhaaGreat
namespace Go.Proofs.YtmgelikgcfjhhaaGreat
open Go.ChangeShapes Go.WideShapes Go.ChangeAt Go.RowKit Go.Cln
namespace ha
open hc hx hy hz tb tc td
set_option linter.unusedVariables false
noncomputable section
noncomputable def body : Code := loopB Tryz.prog 136 0
noncomputable def fnV : Value := .func (.func 137) #[] #[.pointer (some ⟨1, 0, none⟩)]
noncomputable def z64 : List Value := List.replicate 64 (.int .u8 0)
noncomputable def H (L X : List Int) (n c : Nat) (g : Option Nat) : Nat → Option Ob := fun i => match i with
  | 0 => some (.cells (.ints .u8 L) 5)
  | 1 => some (.cells (.lit [.slice (some ⟨0, 0, g⟩) n c]) 23)
  | 2 => some (.cells (.lit z64) 122)
  | 3 => some (.cells (.lit z64) 122)
  | 4 => some (.cells (.ints .u8 X) 122)
  | _ => none
noncomputable def E (L X : List Int) (n c : Nat) (g : Option Nat) : St := ⟨[fnV, undef, P0 3 0, P0 4 0, undef, .int .i64 0] ++ U 9, [], Tr.rebuild (H L X n c g) 5, 5, 1, [], fun _ => false, True, []⟩
noncomputable def R (L X : List Int) (n c : Nat) (g : Option Nat) (i : Int) : St := ⟨[fnV, undef, P0 3 0, P0 4 0, junk, .int .i64 i] ++ J 8 ++ [undef], [], Tr.rebuild (H L X n c g) 5, 5, 1, [], fun _ => false, True, []⟩
noncomputable def ix (i : Int) : Nat := 0 + i.toNat * 1
noncomputable def i1 (i : Int) : Int := IntKind.i64.wrap (i + 1)
noncomputable def pI (X : List Int) (i : Int) (p : Prop) : Prop := (p ∧ (0 ≤ i ∧ i < ((64 : Nat) : Int))) ∧ ix i + 1 ≤ X.length
noncomputable def pY (L X : List Int) (n : Nat) (i : Int) : Prop := pI X i ((((True ∧ decide (i < 64) = true) ∧ decide (i < (n : Int)) = true) ∧ (0 ≤ i ∧ i < (n : Int))) ∧ ix i < L.length)
noncomputable def pN (X : List Int) (n : Nat) (i : Int) : Prop := pI X i ((True ∧ decide (i < 64) = true) ∧ decide (i < (n : Int)) = false)
noncomputable def oY : List (Option Bool) := [some true, some true, some true, some true, some true, some true]
noncomputable def oN : List (Option Bool) := [some true, some false, some true, some true]
theorem kEY (L X : List Int) (n c : Nat) (g : Option Nat) (rd : Option Nat) : ((mk Tryz.prog Given.nothing 200).code 136 rd body { E L X n c g with obl := True, orc := oY }).map (fun r => (r.1, r.2.obl, seenIn r.2 (R L (X.set (ix 0) (L.getD (ix 0) 0)) n c g (i1 0)) [])) =
    some (.normal, pY L X n 0, seenAs (R L (X.set (ix 0) (L.getD (ix 0) 0)) n c g (i1 0)) [] 5) := by kernel_rfl
theorem kRY (L X : List Int) (n c : Nat) (g : Option Nat) (i : Int) (rd : Option Nat) : ((mk Tryz.prog Given.nothing 200).code 136 rd body { R L X n c g i with obl := True, orc := oY }).map (fun r => (r.1, r.2.obl, seenIn r.2 (R L (X.set (ix i) (L.getD (ix i) 0)) n c g (i1 i)) [])) =
    some (.normal, pY L X n i, seenAs (R L (X.set (ix i) (L.getD (ix i) 0)) n c g (i1 i)) [] 5) := by kernel_rfl
theorem kRN (L X : List Int) (n c : Nat) (g : Option Nat) (i : Int) (rd : Option Nat) : ((mk Tryz.prog Given.nothing 200).code 136 rd body { R L X n c g i with obl := True, orc := oN }).map (fun r => (r.1, r.2.obl, seenIn r.2 (R L (X.set (ix i) 0) n c g (i1 i)) [])) =
    some (.normal, pN X n i, seenAs (R L (X.set (ix i) 0) n c g (i1 i)) [] 5) := by kernel_rfl
theorem kX (L X : List Int) (n c : Nat) (g : Option Nat) (i : Int) (rd : Option Nat) : ((mk Tryz.prog Given.nothing 200).code 136 rd body { R L X n c g i with obl := True, orc := [some false] }).map (fun r => (r.1, r.2.obl, seenIn r.2 (R L X n c g i) [])) =
    some (.exit 0, True ∧ decide (i < 64) = false, seenAs (R L X n c g i) [] 5) := by kernel_rfl
theorem sEY (L X : List Int) (n c : Nat) (g : Option Nat) (X0 : List Int) (rd : Option Nat) (hp : pY L X n 0) : Step Tryz.prog rd (E L X0 n c g) body (E L X n c g) (fun e t => e = .normal ∧ t = R L (X.set (ix 0) (L.getD (ix 0) 0)) n c g (i1 0)) :=
  Step.std sw.pg (GivenOk.nothing _) (kEY L X n c g rd) hp (show 5 ≤ 5 by decide) (g := H L (X.set (ix 0) (L.getD (ix 0) 0)) n c g) rfl (by kernel_rfl)
theorem sRY (L X : List Int) (n c : Nat) (g : Option Nat) (i : Int) (X0 : List Int) (rd : Option Nat) (hp : pY L X n i) : Step Tryz.prog rd (E L X0 n c g) body (R L X n c g i) (fun e t => e = .normal ∧ t = R L (X.set (ix i) (L.getD (ix i) 0)) n c g (i1 i)) :=
  Step.std sw.pg (GivenOk.nothing _) (kRY L X n c g i rd) hp (show 5 ≤ 5 by decide) (g := H L (X.set (ix i) (L.getD (ix i) 0)) n c g) rfl (by kernel_rfl)
theorem sRN (L X : List Int) (n c : Nat) (g : Option Nat) (i : Int) (X0 : List Int) (rd : Option Nat) (hp : pN X n i) : Step Tryz.prog rd (E L X0 n c g) body (R L X n c g i) (fun e t => e = .normal ∧ t = R L (X.set (ix i) 0) n c g (i1 i)) :=
  Step.std sw.pg (GivenOk.nothing _) (kRN L X n c g i rd) hp (show 5 ≤ 5 by decide) (g := H L (X.set (ix i) 0) n c g) rfl (by kernel_rfl)
theorem sX (L X : List Int) (n c : Nat) (g : Option Nat) (i : Int) (X0 : List Int) (rd : Option Nat) (hp : True ∧ decide (i < 64) = false) : Step Tryz.prog rd (E L X0 n c g) body (R L X n c g i) (fun e t => e = .exit 0 ∧ t = R L X n c g i) :=
  Step.std sw.pg (GivenOk.nothing _) (kX L X n c g i rd) hp (show 5 ≤ 5 by decide) (g := H L X n c g) rfl (by kernel_rfl)
end
end ha
end Go.Proofs.YtmgelikgcfjhhaaGreat
namespace Go.Proofs.YtmgelikgcfjhhaaGreat
open Go.ChangeShapes Go.WideShapes Go.ChangeAt Go.RowKit Go.Cln
namespace ha
open hc hx hy hz tb tc td
set_option linter.unusedVariables false
noncomputable section
noncomputable def XI (L : List Int) (i : Nat) : List Int := L.take i ++ List.replicate (64 - (L.take i).length) 0
theorem XI_len {L : List Int} (h : L.length ≤ 64) (i : Nat) : (XI L i).length = 64 := by
  unfold XI
  rw [List.length_append, List.length_replicate, List.length_take]; omega
theorem XI_yes {L : List Int} {i : Nat} (h : i < L.length) (hl : L.length ≤ 64) : (XI L i).set i (L.getD i 0) = XI L (i + 1) := by
  unfold XI
  have e1 : (L.take i).length = i := by rw [List.length_take]; omega
  have e2 : (L.take (i + 1)).length = i + 1 := by rw [List.length_take]; omega
  rw [e1, e2, List.set_append_right _ _ (by omega), e1, Nat.sub_self]
  obtain ⟨k, hk⟩ : ∃ k, 64 - i = k + 1 := ⟨63 - i, by omega⟩
  rw [hk, List.replicate_succ, List.set_cons_zero, show 64 - (i + 1) = k by omega]
  rw [List.take_add_one, List.append_assoc, List.getD_eq_getElem?_getD, List.getElem?_eq_getElem h]
  rfl
theorem XI_no {L : List Int} {i : Nat} (h : L.length ≤ i) (hi : i < 64) : (XI L i).set i 0 = XI L (i + 1) := by
  unfold XI
  rw [List.take_of_length_le h, List.take_of_length_le (by omega), List.set_append_right _ _ h]
  congr 1
  apply List.ext_getElem?
  intro j
  rw [List.getElem?_set]
  by_cases hj : i - L.length = j
  · subst hj
    rw [if_pos rfl, if_pos (by simp; omega), List.getElem?_replicate, if_pos (by omega)]
  · rw [if_neg hj]
theorem XI_zero (L : List Int) : XI L 0 = List.replicate 64 0 := by unfold XI; simp
theorem XI_end {L : List Int} (h : L.length ≤ 64) : XI L 64 = L ++ List.replicate (64 - L.length) 0 := by unfold XI; rw [List.take_of_length_le h]
theorem ix_eq (i : Nat) : ix (i : Int) = i := by unfold ix; omega
theorem i1_eq {i : Nat} (h : i < 100) : i1 (i : Int) = ((i + 1 : Nat) : Int) := by unfold i1; rw [IntKind.wrap_i64]; omega
theorem pY_of {L : List Int} {i n : Nat} (hn : L.length = n) (h : i < n) (hl : n ≤ 64) : pY L (XI L i) n (i : Int) := by
  have := XI_len (L := L) (by omega) i
  unfold pY pI
  rw [ix_eq, this]
  exact ⟨⟨⟨⟨⟨⟨trivial, by rw [decide_eq_true_eq]; omega⟩, by rw [decide_eq_true_eq]; omega⟩, by omega⟩, by omega⟩, by omega⟩, by omega⟩
theorem pN_of {L : List Int} {i n : Nat} (hn : L.length = n) (h : n ≤ i) (hl : n ≤ 64) (hi : i < 64) : pN (XI L i) n (i : Int) := by
  have := XI_len (L := L) (by omega) i
  unfold pN pI
  rw [ix_eq, this]
  exact ⟨⟨⟨⟨trivial, by rw [decide_eq_true_eq]; omega⟩, by rw [decide_eq_false_iff_not]; omega⟩, by omega⟩, by omega⟩
theorem loopB9 (L : List Int) (n c : Nat) (g : Option Nat) (hn : L.length = n) (h0 : 0 < n) (hl : n ≤ 64) (rd : Option Nat) :
    CodeOk Tryz.prog rd (.loop body) (E L (List.replicate 64 0) n c g) (.exit 0) (R L (XI L 64) n c g ((64 : Nat) : Int)) := by
  have e0 : ix 0 = 0 := rfl
  refine CodeOk.of_step (Step.loop (fun f t => (f = 64 ∧ t = E L (List.replicate 64 0) n c g) ∨ ∃ i, 1 ≤ i ∧ i ≤ 64 ∧ f = 64 - i ∧ t = R L (XI L i) n c g (i : Int)) ?_ 64 _ (.inl ⟨rfl, rfl⟩))
  rintro f t (⟨rfl, rfl⟩ | ⟨i, g1, g2, rfl, rfl⟩)
  · rw [← XI_zero L]
    refine (sEY L (XI L 0) n c g (XI L 0) rd (pY_of (i := 0) hn h0 hl)).mono ?_
    rintro e t ⟨rfl, rfl⟩
    refine .inl ⟨rfl, 63, by omega, .inr ⟨1, by omega, by omega, rfl, ?_⟩⟩
    have e1 : i1 0 = ((1 : Nat) : Int) := i1_eq (i := 0) (by omega)
    rw [e0, XI_yes (by omega) (by omega), e1]
  · by_cases h64 : i = 64
    · subst h64
      refine (sX L (XI L 64) n c g ((64 : Nat) : Int) _ rd ⟨trivial, by decide⟩).mono ?_
      rintro e t ⟨rfl, rfl⟩
      exact .inr ⟨(by intro x; cases x), rfl, rfl⟩
    · by_cases hi : i < n
      · refine (sRY L (XI L i) n c g (i : Int) _ rd (pY_of hn hi hl)).mono ?_
        rintro e t ⟨rfl, rfl⟩
        refine .inl ⟨rfl, 64 - (i + 1), by omega, .inr ⟨i + 1, by omega, by omega, rfl, ?_⟩⟩
        rw [ix_eq, XI_yes (by omega) (by omega), i1_eq (by omega)]
      · refine (sRN L (XI L i) n c g (i : Int) _ rd (pN_of hn (by omega) hl (by omega))).mono ?_
        rintro e t ⟨rfl, rfl⟩
        refine .inl ⟨rfl, 64 - (i + 1), by omega, .inr ⟨i + 1, by omega, by omega, rfl, ?_⟩⟩
        rw [ix_eq, XI_no (by omega) (by omega), i1_eq (by omega)]
end
end ha
end Go.Proofs.YtmgelikgcfjhhaaGreat
namespace Go.Proofs.YtmgelikgcfjhhaaGreat
open Go.ChangeShapes Go.WideShapes Go.ChangeAt Go.RowKit Go.Cln
namespace ha
open hc hx hy hz tb tc td
set_option linter.unusedVariables false
noncomputable section
noncomputable def ask20 (S1 : St) (f : FuncId) (c : Code) (S : St) : Option Ask2 := if f == 136 then some ⟨⟨[], [(4, .u8)], [], []⟩, .exit 0, fun _ => S1⟩ else none
noncomputable def r9 (L X : List Int) (n c : Nat) (g : Option Nat) : Option (Value × St) := (mk Tryz.prog (Given.asking2 Given.nothing Tryz.prog (ask20 (R L X n c g ((64 : Nat) : Int)))) 300).call 106 [.slice (some ⟨0, 0, g⟩) n c] (smSt 1 (hB L) [some false, some false, some true])
noncomputable def bV (X : List Int) : Value := .agg (rowV .u8 64 (ch X)).toArray
noncomputable def o9 (L : List Int) (k : Nat) : List (Option Ob) := some (Ob.cells (.ints .u8 L) 5) :: List.replicate k none
noncomputable def p9 (L X : List Int) (n c : Nat) (g : Option Nat) : Prop := (((True ∧ decide ((n : Int) > 1048576) = false) ∧ decide ((n : Int) > 64) = false) ∧ ∀ rd, CodeOk Tryz.prog rd (.loop body) (E L (List.replicate 64 0) n c g) (.exit 0) (R L X n c g ((64 : Nat) : Int))) ∧ 0 + 64 ≤ X.length
theorem run9 (L X : List Int) (n c : Nat) (g : Option Nat) : (r9 L X n c g).map (fun r => (r.1, r.2.obl, r.2.next, keepL (true :: List.replicate 4 false) r.2.heap.get 0)) =
    some (.tuple #[bV X, .int .i64 0], p9 L X n c g, (o9 L 4).length, o9 L 4) := by kernel_rfl
noncomputable def r9l (D : List Int → sw.N5) (L : List Int) (n c : Nat) (g : Option Nat) : Option (Value × St) := (mk Tryz.prog (Given.frames Given.nothing (FD D)) 300).call 106 [.slice (some ⟨0, 0, g⟩) n c] (smSt 1 (hB L) [some false, some true])
noncomputable def r9n : Option (Value × St) := (mk Tryz.prog Given.nothing 300).call 106 [.slice none 0 0] (smSt 0 [] [])
noncomputable def r9z (g : Option Nat) (c : Nat) : Option (Value × St) := (mk Tryz.prog Given.nothing 300).call 106 [.slice (some ⟨0, 0, g⟩) 0 c] (smSt 1 [none] [])
end
end ha
end Go.Proofs.YtmgelikgcfjhhaaGreat
namespace Go.Proofs.YtmgelikgcfjhhaaGreat
open Go.ChangeShapes Go.WideShapes Go.ChangeAt Go.RowKit Go.Cln
namespace ha
open hc hx hy hz tb tc td
set_option linter.unusedVariables false
noncomputable section
namespace rr
noncomputable def body : Code := loopB Tryz.prog 69 0
noncomputable def H (L X : List Int) : Nat → Option Ob := fun i => match i with
  | 0 => some (.cells (.ints .u8 L) 5)
  | 1 => some (.cells (.lit z64) 122)
  | 2 => some (.cells (.ints .u8 X) 122)
  | _ => none
noncomputable def hd (n c : Nat) (g : Option Nat) (i : Int) : List Value := [.slice (some ⟨0, 0, g⟩) n c, undef, P0 1 0, P0 2 0, undef, .int .i64 i] ++ J 3
noncomputable def E (L X : List Int) (n c : Nat) (g : Option Nat) : St := ⟨hd n c g 0 ++ U 16, [], Tr.rebuild (H L X) 3, 3, 1, [], fun _ => false, True, []⟩
noncomputable def R (L X : List Int) (n c : Nat) (g : Option Nat) (i : Int) : St := ⟨hd n c g i ++ (U 3 ++ (J 12 ++ [undef])), [], Tr.rebuild (H L X) 3, 3, 1, [], fun _ => false, True, []⟩
noncomputable def pY (L X : List Int) (n : Nat) (i : Int) : Prop := pI X i (((True ∧ decide (i < (n : Int)) = true) ∧ (0 ≤ i ∧ i < (n : Int))) ∧ ix i < L.length)
noncomputable def oY : List (Option Bool) := [some true, some true, some true, some true, some true]
theorem kEY (L X : List Int) (n c : Nat) (g : Option Nat) (rd : Option Nat) : ((mk Tryz.prog Given.nothing 200).code 69 rd body { E L X n c g with obl := True, orc := oY }).map (fun r => (r.1, r.2.obl, seenIn r.2 (R L (X.set (ix 0) (L.getD (ix 0) 0)) n c g (i1 0)) [])) =
    some (.normal, pY L X n 0, seenAs (R L (X.set (ix 0) (L.getD (ix 0) 0)) n c g (i1 0)) [] 3) := by kernel_rfl
theorem kRY (L X : List Int) (n c : Nat) (g : Option Nat) (i : Int) (rd : Option Nat) : ((mk Tryz.prog Given.nothing 200).code 69 rd body { R L X n c g i with obl := True, orc := oY }).map (fun r => (r.1, r.2.obl, seenIn r.2 (R L (X.set (ix i) (L.getD (ix i) 0)) n c g (i1 i)) [])) =
    some (.normal, pY L X n i, seenAs (R L (X.set (ix i) (L.getD (ix i) 0)) n c g (i1 i)) [] 3) := by kernel_rfl
theorem kX (L X : List Int) (n c : Nat) (g : Option Nat) (i : Int) (rd : Option Nat) : ((mk Tryz.prog Given.nothing 200).code 69 rd body { R L X n c g i with obl := True, orc := [some false] }).map (fun r => (r.1, r.2.obl, seenIn r.2 (R L X n c g i) [])) =
    some (.exit 0, True ∧ decide (i < (n : Int)) = false, seenAs (R L X n c g i) [] 3) := by kernel_rfl
theorem sEY (L X : List Int) (n c : Nat) (g : Option Nat) (rd : Option Nat) (hp : pY L X n 0) : Step Tryz.prog rd (E L X n c g) body (E L X n c g) (fun e t => e = .normal ∧ t = R L (X.set (ix 0) (L.getD (ix 0) 0)) n c g (i1 0)) :=
  Step.std sw.pg (GivenOk.nothing _) (kEY L X n c g rd) hp (show 3 ≤ 3 by decide) (g := H L (X.set (ix 0) (L.getD (ix 0) 0))) rfl (by kernel_rfl)
theorem sRY (L X : List Int) (n c : Nat) (g : Option Nat) (i : Int) (X0 : List Int) (rd : Option Nat) (hp : pY L X n i) : Step Tryz.prog rd (E L X0 n c g) body (R L X n c g i) (fun e t => e = .normal ∧ t = R L (X.set (ix i) (L.getD (ix i) 0)) n c g (i1 i)) :=
  Step.std sw.pg (GivenOk.nothing _) (kRY L X n c g i rd) hp (show 3 ≤ 3 by decide) (g := H L (X.set (ix i) (L.getD (ix i) 0))) rfl (by kernel_rfl)
theorem sX (L X : List Int) (n c : Nat) (g : Option Nat) (i : Int) (X0 : List Int) (rd : Option Nat) (hp : True ∧ decide (i < (n : Int)) = false) : Step Tryz.prog rd (E L X0 n c g) body (R L X n c g i) (fun e t => e = .exit 0 ∧ t = R L X n c g i) :=
  Step.std sw.pg (GivenOk.nothing _) (kX L X n c g i rd) hp (show 3 ≤ 3 by decide) (g := H L X) rfl (by kernel_rfl)
theorem pY_of {L : List Int} {i n : Nat} (hn : L.length = n) (h : i < n) (hl : n ≤ 64) : pY L (XI L i) n (i : Int) := by
  have := XI_len (L := L) (by omega) i
  unfold pY pI
  rw [ix_eq, this]
  exact ⟨⟨⟨⟨⟨trivial, by rw [decide_eq_true_eq]; omega⟩, by omega⟩, by omega⟩, by omega⟩, by omega⟩
theorem loopB11 (L : List Int) (n c : Nat) (g : Option Nat) (hn : L.length = n) (h0 : 0 < n) (hl : n ≤ 64) (rd : Option Nat) :
    CodeOk Tryz.prog rd (.loop body) (E L (List.replicate 64 0) n c g) (.exit 0) (R L (XI L n) n c g ((n : Nat) : Int)) := by
  have e0 : ix 0 = 0 := rfl
  refine CodeOk.of_step (Step.loop (fun f t => (f = n ∧ t = E L (List.replicate 64 0) n c g) ∨ ∃ i, 1 ≤ i ∧ i ≤ n ∧ f = n - i ∧ t = R L (XI L i) n c g (i : Int)) ?_ n _ (.inl ⟨rfl, rfl⟩))
  rintro f t (⟨rfl, rfl⟩ | ⟨i, g1, g2, rfl, rfl⟩)
  · rw [← XI_zero L]
    refine (sEY L (XI L 0) f c g rd (pY_of (i := 0) hn h0 hl)).mono ?_
    rintro e t ⟨rfl, rfl⟩
    refine .inl ⟨rfl, f - 1, by omega, .inr ⟨1, by omega, by omega, rfl, ?_⟩⟩
    have e1 : i1 0 = ((1 : Nat) : Int) := i1_eq (i := 0) (by omega)
    rw [e0, XI_yes (by omega) (by omega), e1]
  · by_cases hi : i = n
    · subst hi
      refine (sX L (XI L i) i c g ((i : Nat) : Int) _ rd ⟨trivial, by rw [decide_eq_false_iff_not]; omega⟩).mono ?_
      rintro e t ⟨rfl, rfl⟩
      exact .inr ⟨(by intro x; cases x), rfl, rfl⟩
    · refine (sRY L (XI L i) n c g (i : Int) _ rd (pY_of hn (by omega) hl)).mono ?_
      rintro e t ⟨rfl, rfl⟩
      refine .inl ⟨rfl, n - (i + 1), by omega, .inr ⟨i + 1, by omega, by omega, rfl, ?_⟩⟩
      rw [ix_eq, XI_yes (by omega) (by omega), i1_eq (by omega)]
noncomputable def ask11 (S1 : St) (f : FuncId) (c : Code) (S : St) : Option Ask2 := if f == 69 then some ⟨⟨[6, 7, 8], [(2, .u8)], [], []⟩, .exit 0, fun _ => S1⟩ else none
noncomputable def r11 (L X : List Int) (n c : Nat) (g : Option Nat) : Option (Value × St) := (mk Tryz.prog (Given.asking2 Given.nothing Tryz.prog (ask11 (R L X n c g ((n : Nat) : Int)))) 300).call 69 [.slice (some ⟨0, 0, g⟩) n c] (smSt 1 (hB L) [some false, some true])
noncomputable def p11 (L X : List Int) (n c : Nat) (g : Option Nat) : Prop := ((True ∧ decide ((n : Int) > 64) = false) ∧ ∀ rd, CodeOk Tryz.prog rd (.loop body) (E L (List.replicate 64 0) n c g) (.exit 0) (R L X n c g ((n : Nat) : Int))) ∧ 0 + 64 ≤ X.length
theorem run11 (L X : List Int) (n c : Nat) (g : Option Nat) : (r11 L X n c g).map (fun r => (r.1, r.2.obl, r.2.next, keepL (true :: List.replicate 2 false) r.2.heap.get 0)) =
    some (bV X, p11 L X n c g, (o9 L 2).length, o9 L 2) := by kernel_rfl
noncomputable def r11l (D : List Int → sw.N5) (L : List Int) (n c : Nat) (g : Option Nat) : Option (Value × St) := (mk Tryz.prog (Given.frames Given.nothing (FD D)) 300).call 69 [.slice (some ⟨0, 0, g⟩) n c] (smSt 1 (hB L) [some true])
noncomputable def r11n : Option (Value × St) := (mk Tryz.prog Given.nothing 300).call 69 [.slice none 0 0] (smSt 0 [] [])
noncomputable def r11z (g : Option Nat) (c : Nat) : Option (Value × St) := (mk Tryz.prog Given.nothing 300).call 69 [.slice (some ⟨0, 0, g⟩) 0 c] (smSt 1 [none] [])
end rr
end
end ha
end Go.Proofs.YtmgelikgcfjhhaaGreat
namespace Go.Proofs.YtmgelikgcfjhhaaGreat
open Go.ChangeShapes Go.WideShapes Go.ChangeAt Go.RowKit Go.Cln
namespace ha
open hc hx hy hz tb tc td
set_option linter.unusedVariables false
noncomputable section
noncomputable def kb (L : List Int) : List Int := if L.length ≤ 64 then L ++ List.replicate (64 - L.length) 0 else ot1 (shaN L) ++ List.replicate 44 0
noncomputable def wn (L : List Int) (n : Nat) : List Int := (L.drop 0).take n
noncomputable def big (D : List Int → sw.N5) (W : List Int) : List Int := ot1 (D W) ++ List.replicate 44 0
noncomputable def p9l (D : List Int → sw.N5) (L : List Int) (n c : Nat) : Prop := ((True ∧ decide ((n : Int) > 1048576) = false) ∧ decide ((n : Int) > 64) = true) ∧ (D = shaN ∧ Byt (wn L n) ∧ n = (wn L n).length ∧ n ≤ c ∧ n ≤ 1000000000)
theorem run9la (D : List Int → sw.N5) (L : List Int) (n c : Nat) : (r9l D L n c none).map (fun r => (r.1, r.2.obl, r.2.next, keepL (true :: List.replicate 33 false) r.2.heap.get 0)) =
    some (.tuple #[bV (big D (wn L n)), .int .i64 0], p9l D L n c, (o9 L 33).length, o9 L 33) := by kernel_rfl
theorem run9lb (D : List Int → sw.N5) (L : List Int) (n c : Nat) : (r9l D L n c (some 1)).map (fun r => (r.1, r.2.obl, r.2.next, keepL (true :: List.replicate 33 false) r.2.heap.get 0)) =
    some (.tuple #[bV (big D (wn L n)), .int .i64 0], p9l D L n c, (o9 L 33).length, o9 L 33) := by kernel_rfl
noncomputable def Z64 : List Int := List.replicate 64 0
noncomputable def nn (k : Nat) : List (Option Ob) := List.replicate k none
theorem run9n : r9n.map (fun r => (r.1, r.2.obl, r.2.next, keepL (List.replicate 4 false) r.2.heap.get 0)) = some (.tuple #[bV Z64, .int .i64 0], True, (nn 4).length, nn 4) := by kernel_rfl
theorem run9z (g : Option Nat) (c : Nat) : (r9z g c).map (fun r => (r.1, r.2.obl, r.2.next, keepL (List.replicate 5 false) r.2.heap.get 0)) = some (.tuple #[bV Z64, .int .i64 0], True, (nn 5).length, nn 5) := by kernel_rfl
namespace rr
noncomputable def p11l (D : List Int → sw.N5) (L : List Int) (n c : Nat) : Prop := (True ∧ decide ((n : Int) > 64) = true) ∧ (D = shaN ∧ n = (wn L n).length ∧ 0 < n ∧ n ≤ 1000000000)
theorem run11l (D : List Int → sw.N5) (L : List Int) (n c : Nat) (g : Option Nat) : (r11l D L n c g).map (fun r => (r.1, r.2.obl, r.2.next, keepL (true :: List.replicate 28 false) r.2.heap.get 0)) =
    some (bV (big D (wn L n)), p11l D L n c, (o9 L 28).length, o9 L 28) := by kernel_rfl
theorem run11n : r11n.map (fun r => (r.1, r.2.obl, r.2.next, keepL (List.replicate 2 false) r.2.heap.get 0)) = some (bV Z64, True, (nn 2).length, nn 2) := by kernel_rfl
theorem run11z (g : Option Nat) (c : Nat) : (r11z g c).map (fun r => (r.1, r.2.obl, r.2.next, keepL (List.replicate 3 false) r.2.heap.get 0)) = some (bV Z64, True, (nn 3).length, nn 3) := by kernel_rfl
end rr
theorem kb_nil : kb [] = Z64 := rfl
theorem wn_eq {L : List Int} {n : Nat} (hn : n = L.length) : wn L n = L := by unfold wn; rw [List.drop_zero, hn, List.take_length]
theorem block9 (L : List Int) (n c : Nat) (g : Option Nat) (hg : g = none ∨ g = some 1) (hL : Byt L) (hn : n = L.length) (h0 : 0 < n) (hc : n ≤ c) (h : n ≤ 1048576) :
    CallOk Tryz.prog 106 [.slice (some ⟨0, 0, g⟩) n c] (smSt 1 (hB L) []) (.tuple #[bV (kb L), .int .i64 0]) (smSt 1 (o9 L 33) []) := by
  by_cases h64 : n ≤ 64
  · have e : XI L 64 = kb L := by unfold kb; rw [if_pos (by omega), XI_end (by omega)]
    have := frame_by sw.pg ((GivenOk.nothing _).asking2 _) _ (run9 L (XI L 64) n c g) ⟨⟨⟨⟨trivial, by rw [decide_eq_false_iff_not]; omega⟩, by rw [decide_eq_false_iff_not]; omega⟩, fun rd => loopB9 L n c g hn.symm h0 h64 rd⟩, by rw [XI_len (by omega)]; omega⟩ (by rfl) rfl
    rw [e] at this
    exact this.pad 29 (by simp [o9]) (by simp [hB]) (by simp [hB, o9])
  · have e : big shaN (wn L n) = kb L := by unfold kb big; rw [if_neg (by omega), wn_eq hn]
    have hp : p9l shaN L n c := by
      refine ⟨⟨⟨trivial, by rw [decide_eq_false_iff_not]; omega⟩, by rw [decide_eq_true_eq]; omega⟩, rfl, ?_, ?_, hc, by omega⟩
      · rw [wn_eq hn]; exact hL
      · rw [wn_eq hn]; exact hn
    rcases hg with rfl | rfl
    · have := frame_by sw.pg ((GivenOk.nothing _).frames (FD_ok shaN)) _ (run9la shaN L n c) hp (by rfl) rfl
      rw [e] at this; exact this
    · have := frame_by sw.pg ((GivenOk.nothing _).frames (FD_ok shaN)) _ (run9lb shaN L n c) hp (by rfl) rfl
      rw [e] at this; exact this
theorem block11 (L : List Int) (n c : Nat) (g : Option Nat) (hn : n = L.length) (h0 : 0 < n) (h : n ≤ 1048576) :
    CallOk Tryz.prog 69 [.slice (some ⟨0, 0, g⟩) n c] (smSt 1 (hB L) []) (bV (kb L)) (smSt 1 (o9 L 28) []) := by
  by_cases h64 : n ≤ 64
  · have e : XI L n = kb L := by
      unfold kb XI
      rw [if_pos (by omega), hn, List.take_length]
    have := frame_by sw.pg ((GivenOk.nothing _).asking2 _) _ (rr.run11 L (XI L n) n c g) ⟨⟨⟨trivial, by rw [decide_eq_false_iff_not]; omega⟩, fun rd => rr.loopB11 L n c g hn.symm h0 h64 rd⟩, by rw [XI_len (by omega)]; omega⟩ (by rfl) rfl
    rw [e] at this
    exact this.pad 26 (by simp [o9]) (by simp [hB]) (by simp [hB, o9])
  · have e : big shaN (wn L n) = kb L := by unfold kb big; rw [if_neg (by omega), wn_eq hn]
    have hp : rr.p11l shaN L n c := ⟨⟨trivial, by rw [decide_eq_true_eq]; omega⟩, rfl, by rw [wn_eq hn]; exact hn, h0, by omega⟩
    have := frame_by sw.pg ((GivenOk.nothing _).frames (FD_ok shaN)) _ (rr.run11l shaN L n c g) hp (by rfl) rfl
    rw [e] at this; exact this
def FK (KF : List Int → List Int) (f : FuncId) (args : List Value) (s : St) : Option Inst := if f == 106 then match args with
  | [.slice (some ⟨b, o, g⟩) n c] => match s.heap.get b with
    | some (.cells (.ints .u8 L) _) => if gOk g = true then some ⟨[(b, o)], 1, hB ((L.drop o).take n), [.slice (some ⟨0, 0, g⟩) n c], .tuple #[bV (KF ((L.drop o).take n)), .int .i64 0], o9 ((L.drop o).take n) 33, KF = kb ∧ Byt ((L.drop o).take n) ∧ n = ((L.drop o).take n).length ∧ 0 < n ∧ n ≤ c ∧ n ≤ 1048576⟩ else none
    | _ => none
  | _ => none else if f == 69 then match args with
  | [.slice (some ⟨b, o, g⟩) n c] => match s.heap.get b with
    | some (.cells (.ints .u8 L) _) => some ⟨[(b, o)], 1, hB ((L.drop o).take n), [.slice (some ⟨0, 0, g⟩) n c], bV (KF ((L.drop o).take n)), o9 ((L.drop o).take n) 28, KF = kb ∧ n = ((L.drop o).take n).length ∧ 0 < n ∧ n ≤ 1048576⟩
    | _ => none
  | _ => none else none
theorem FK_ok (KF : List Int → List Int) (f : FuncId) (args : List Value) (s : St) (i : Inst) (h : FK KF f args s = some i) : Fits s i args ∧ (i.ask → CallOk Tryz.prog f i.args i.s0 i.val i.s1) := by
  unfold FK at h
  split at h
  · rename_i hf
    have hf' : f = 106 := by simpa using hf
    subst hf'
    split at h
    · rename_i b o g n c
      split at h
      · rename_i L tb hb
        split at h
        · rename_i hg
          cases h
          refine ⟨fit1 hb rfl rfl rfl, fun ha => ?_⟩
          obtain ⟨rfl, q0, q1, q2, q3, q4⟩ := ha
          exact block9 _ n c g (gOk_eq hg) q0 q1 q2 q3 q4
        · cases h
      · cases h
    · cases h
  · split at h
    · rename_i hf
      have hf' : f = 69 := by simpa using hf
      subst hf'
      split at h
      · rename_i b o g n c
        split at h
        · rename_i L tb hb
          cases h
          refine ⟨fit1 hb rfl rfl rfl, fun ha => ?_⟩
          obtain ⟨rfl, q1, q2, q3⟩ := ha
          exact block11 _ n c g q1 q2 q3
        · cases h
      · cases h
    · cases h
def FE (KF : List Int → List Int) (f : FuncId) (args : List Value) (s : St) : Option Inst := if f == 106 then match args with
  | [.slice none 0 0] => some ⟨[], 0, [], [.slice none 0 0], .tuple #[bV (KF []), .int .i64 0], nn 4, KF = kb⟩
  | [.slice (some ⟨b, o, g⟩) 0 c] => some ⟨[(b, o)], 1, [none], [.slice (some ⟨0, 0, g⟩) 0 c], .tuple #[bV (KF []), .int .i64 0], nn 5, KF = kb⟩
  | _ => none else if f == 69 then match args with
  | [.slice none 0 0] => some ⟨[], 0, [], [.slice none 0 0], bV (KF []), nn 2, KF = kb⟩
  | [.slice (some ⟨b, o, g⟩) 0 c] => some ⟨[(b, o)], 1, [none], [.slice (some ⟨0, 0, g⟩) 0 c], bV (KF []), nn 3, KF = kb⟩
  | _ => none else none
theorem FE_ok (KF : List Int → List Int) (f : FuncId) (args : List Value) (s : St) (i : Inst) (h : FE KF f args s = some i) : Fits s i args ∧ (i.ask → CallOk Tryz.prog f i.args i.s0 i.val i.s1) := by
  unfold FE at h
  split at h
  · rename_i hf
    have hf' : f = 106 := by simpa using hf
    subst hf'
    split at h
    · cases h
      refine ⟨⟨rfl, fun j p ob hp ho => by simp at hp⟩, fun ha => ?_⟩
      cases ha
      rw [kb_nil]
      exact frame_by sw.pg (GivenOk.nothing _) _ run9n trivial (by rfl) rfl
    · rename_i b o g c
      cases h
      refine ⟨fitN rfl rfl rfl, fun ha => ?_⟩
      cases ha
      rw [kb_nil]
      exact frame_by sw.pg (GivenOk.nothing _) _ (run9z g c) trivial (by rfl) rfl
    · cases h
  · split at h
    · rename_i hf
      have hf' : f = 69 := by simpa using hf
      subst hf'
      split at h
      · cases h
        refine ⟨⟨rfl, fun j p ob hp ho => by simp at hp⟩, fun ha => ?_⟩
        cases ha
        rw [kb_nil]
        exact frame_by sw.pg (GivenOk.nothing _) _ rr.run11n trivial (by rfl) rfl
      · rename_i b o g c
        cases h
        refine ⟨fitN rfl rfl rfl, fun ha => ?_⟩
        cases ha
        rw [kb_nil]
        exact frame_by sw.pg (GivenOk.nothing _) _ (rr.run11z g c) trivial (by rfl) rfl
      · cases h
    · cases h
def FB2 (KF : List Int → List Int) (f : FuncId) (args : List Value) (s : St) : Option Inst := match FK KF f args s with
  | some i => some i
  | none => FE KF f args s
theorem FB2_ok (KF : List Int → List Int) (f : FuncId) (args : List Value) (s : St) (i : Inst) (h : FB2 KF f args s = some i) : Fits s i args ∧ (i.ask → CallOk Tryz.prog f i.args i.s0 i.val i.s1) := by
  unfold FB2 at h
  split at h
  · rename_i j h1
    cases h; exact FK_ok KF f args s _ h1
  · exact FE_ok KF f args s _ h
abbrev KT' := List Int → List Int
end
end ha
end Go.Proofs.YtmgelikgcfjhhaaGreat
