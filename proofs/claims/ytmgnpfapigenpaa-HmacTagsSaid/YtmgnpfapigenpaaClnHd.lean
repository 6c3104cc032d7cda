/- Read off the code by the clean reading. -/
import Derived.Test.YtmgnpfapigenpaaClnHa
set_option linter.unusedVariables false
set_option linter.unusedSimpArgs false
set_option linter.deprecated false
set_option maxRecDepth 100000
namespace Go.Proofs.Ytmgnpfapigenpaa
open Go.ChangeShapes Go.WideShapes Go.ChangeAt Go.RowKit Go.Cln
namespace hd
open hc hx hy hz tb tc td ha
set_option linter.unusedVariables false
noncomputable section
abbrev XT := Int → Int → Int
noncomputable def XR (XF : XT) (l : List Value) (p : Int) : Value := .agg (rowV .u8 64 (fun j => XF (intAt l j) p)).toArray
/-- padded, told -/
noncomputable def FP (XF : XT) (f : FuncId) (args : List Value) : Option Value := if f == 35 then match args with
  | [.agg x, .int .u8 p] => if x.toList.length = 64 ∧ x.toList.all (isKind .u8) = true then some (XR XF x.toList p) else none
  | _ => none else none
theorem run35 (b : Nat → Int) (p : Int) : ((mk Try.prog Given.nothing 300).call 35 [.agg (rowV .u8 64 b).toArray, .int .u8 p] (St.start 0 .leaf [])).map (fun r => (r.1, r.2.obl)) =
    some (.agg (rowV .u8 64 (fun j => xorI .u8 (b j) p)).toArray, True) := by kernel_rfl
theorem FP_ok : GivenOk Try.prog (Given.calls (FP (xorI .u8))) := GivenOk.calls fun f args v h => by
  unfold FP at h
  split at h
  · rename_i hf
    split at h
    · rename_i x p
      split at h
      · rename_i hc
        simp only [Option.some.injEq] at h
        subst h
        have hf' : f = 35 := by simpa using hf
        subst hf'
        obtain ⟨h3, h4⟩ := hc
        have e2 : x = (rowV .u8 64 (intAt x.toList)).toArray := by rw [rowV_of h3 h4]
        refine ⟨?_, rfl, fun W => ?_⟩
        · rw [e2]; rfl
        · have := ranF sw.pg (GivenOk.nothing _) (run35 (intAt x.toList) p) trivial rfl rfl W
          rw [← e2] at this
          exact this
      · cases h
    · cases h
  · cases h
/-- cells as numbers -/
def iL (r : List Value) : List Int := r.map fun v => match v with | .int _ x => x | _ => 0
theorem iL_get {k : IntKind} {r : List Value} (h : r.all (isKind k) = true) {x : Nat} {a : Int} (hx : (iL r)[x]? = some a) : r[x]? = some (.int k a) := by
  unfold iL at hx
  rw [List.getElem?_map, Option.map_eq_some_iff] at hx
  obtain ⟨v, hv, e⟩ := hx
  have := List.all_eq_true.1 h v (List.mem_of_getElem? hv)
  rw [hv]
  cases v <;> simp [isKind] at this
  subst this
  simp only at e
  rw [e]
theorem iL_win {k : IntKind} {r : List Value} {o n : Nat} (h : ((r.drop o).take n).all (isKind k) = true) : ∀ x a, (iL ((r.drop o).take n))[x]? = some a → r[o + x]? = some (.int k a) := fun x a hx => by
  have := iL_get h hx
  rw [List.getElem?_take] at this
  split at this
  · rw [List.getElem?_drop] at this; exact this
  · cases this
end
end hd
end Go.Proofs.Ytmgnpfapigenpaa
namespace Go.Proofs.Ytmgnpfapigenpaa
open Go.ChangeShapes Go.WideShapes Go.ChangeAt Go.RowKit Go.Cln
namespace hd
open hc hx hy hz tb tc td ha
set_option linter.unusedVariables false
noncomputable section
/-- Write and the document's Sum of cells that are written out, told -/
def FL (A : List Int → HS → HS) (D : List Int → sw.N5) (f : FuncId) (args : List Value) (s : St) : Option Inst := if f == 36 then match args with
  | [.pointer (some ⟨p, 0, none⟩), .slice (some ⟨b, o, g⟩) n c] => match s.heap.get p with
    | some (.cells (.lit l) _) => match s.heap.get b with
      | some (.cells (.lit r) _) => if okH l = true ∧ gOk g = true ∧ ((r.drop o).take n).all (isKind .u8) = true then
          some ⟨[(b, o), (p, 0)], 1, [some (Ob.cells (.ints .u8 (iL ((r.drop o).take n))) 5), some (.cells (.lit l) 77)], [.pointer (some ⟨1, 0, none⟩), .slice (some ⟨0, 0, g⟩) n c], .int .i64 0,
            some (Ob.cells (.ints .u8 (iL ((r.drop o).take n))) 5) :: some (objH (A (iL ((r.drop o).take n)) (hOf l)) (IntKind.i64.wrap (intAt l 70 + (n : Int)))) :: List.replicate 6 none, A = AB ∧ 0 ≤ intAt l 64 ∧ intAt l 64 < 64 ∧ n = (iL ((r.drop o).take n)).length ∧ n ≤ c⟩
        else none
      | _ => none
    | _ => none
  | _ => none else if f == 22 then match args with
  | [.slice (some ⟨b, o, g⟩) n c] => match s.heap.get b with
    | some (.cells (.lit r) _) => if ((r.drop o).take n).all (isKind .u8) = true then some ⟨[(b, o)], 1, hB (iL ((r.drop o).take n)), [.slice (some ⟨0, 0, g⟩) n c], outV (D (iL ((r.drop o).take n))), out12 (iL ((r.drop o).take n)), D = shaN ∧ n = (iL ((r.drop o).take n)).length ∧ 0 < n ∧ n ≤ 1000000000⟩ else none
    | _ => none
  | _ => none else none
theorem FL_ok (A : List Int → HS → HS) (D : List Int → sw.N5) (f : FuncId) (args : List Value) (s : St) (i : Inst) (h : FL A D f args s = some i) : Fits s i args ∧ (i.ask → CallOk Try.prog f i.args i.s0 i.val i.s1) := by
  unfold FL at h
  split at h
  · rename_i hf
    have hf' : f = 36 := by simpa using hf
    subst hf'
    split at h
    · rename_i p b o g n c
      split at h
      · rename_i l tp hp
        split at h
        · rename_i r tb hb
          split at h
          · rename_i hc
            obtain ⟨hok, hg, hr⟩ := hc
            cases h
            have hl := okH_eq hok
            refine ⟨⟨?_, fun j pp ob h1 h2 => ?_⟩, fun ha => ?_⟩
            · show [Value.pointer (some ⟨p, 0, none⟩), .slice (some ⟨b, o, g⟩) n c] = [.pointer (some ⟨p, 0, none⟩), .slice (some ⟨b, addO o 0, g⟩) n c]
              rw [addO_eq]; rfl
            · rcases j with _ | _ | j
              · simp only [List.getElem?_cons_zero, Option.some.injEq] at h1
                subst h1
                simp only [List.getElem?_cons_zero, Option.some.injEq] at h2
                subst h2
                exact ⟨_, hb, fit_intsL (iL_win hr)⟩
              · simp only [Nat.zero_add, List.getElem?_cons_succ, List.getElem?_cons_zero, Option.some.injEq] at h1
                subst h1
                simp only [Nat.zero_add, List.getElem?_cons_succ, List.getElem?_cons_zero, Option.some.injEq] at h2
                subst h2
                exact ⟨_, hp, fit_flat (fun x v hx => by rw [Nat.zero_add]; exact hx) (by rw [hl]; exact cH_flat _ _)⟩
              · simp at h1
            · obtain ⟨rfl, q1, q2, q3, q4⟩ := ha
              have := wr (iL ((r.drop o).take n)) n c g (gOk_eq hg) (hOf l) (intAt l 70) q1 q2 q3 q4
              unfold objH at this
              rw [← hl] at this
              exact this
          · cases h
        · cases h
      · cases h
    · cases h
  · split at h
    · rename_i hf
      have hf' : f = 22 := by simpa using hf
      subst hf'
      split at h
      · rename_i b o g n c
        split at h
        · rename_i r tb hb
          split at h
          · rename_i hr
            cases h
            refine ⟨⟨?_, fun j pp ob h1 h2 => ?_⟩, fun ha => ?_⟩
            · show [Value.slice (some ⟨b, o, g⟩) n c] = [Value.slice (some ⟨b, addO o 0, g⟩) n c]
              rw [addO_eq]; rfl
            · rcases j with _ | j
              · simp only [List.getElem?_cons_zero, Option.some.injEq] at h1
                subst h1
                simp only [hB, List.getElem?_cons_zero, Option.some.injEq] at h2
                subst h2
                exact ⟨_, hb, fit_intsL (iL_win hr)⟩
              · simp at h1
            · obtain ⟨rfl, q1, q2, q3⟩ := ha
              exact sumR _ n c g q1 q2 q3
          · cases h
        · cases h
      · cases h
    · cases h
/-- all that hmac's tags tell -/
def FT (KF : List Int → List Int) (D : List Int → sw.N5) (A : List Int → HS → HS) (E : HS → Nat → sw.N5) (f : FuncId) (args : List Value) (s : St) : Option Inst := match FA D A E f args s with
  | some i => some i
  | none => match FB2 KF f args s with
    | some i => some i
    | none => FL A D f args s
theorem FT_ok (KF : List Int → List Int) (D : List Int → sw.N5) (A : List Int → HS → HS) (E : HS → Nat → sw.N5) (f : FuncId) (args : List Value) (s : St) (i : Inst) (h : FT KF D A E f args s = some i) : Fits s i args ∧ (i.ask → CallOk Try.prog f i.args i.s0 i.val i.s1) := by
  unfold FT at h
  split at h
  · rename_i j h1
    cases h; exact FA_ok D A E f args s _ h1
  · split at h
    · rename_i j h1
      cases h; exact FB2_ok KF f args s _ h1
    · exact FL_ok A D f args s _ h
end
end hd
end Go.Proofs.Ytmgnpfapigenpaa
namespace Go.Proofs.Ytmgnpfapigenpaa
open Go.ChangeShapes Go.WideShapes Go.ChangeAt Go.RowKit Go.Cln
namespace hd
open hc hx hy hz tb tc td ha
set_option linter.unusedVariables false
noncomputable section
abbrev DT := List Int → sw.N5
abbrev AT := List Int → HS → HS
abbrev ET := HS → Nat → sw.N5
def KT (KF : KT') (XF : XT) (D : DT) (A : AT) (E : ET) : Given := { Given.frames (Given.calls (FP XF)) (FT KF D A E) with fits := true }
theorem KT_ok (KF : KT') (D : DT) (A : AT) (E : ET) : GivenOk Try.prog (KT KF (xorI .u8) D A E) := frames_fits (FP_ok.frames (FT_ok KF D A E)) true
def vs (b n c : Nat) : Value := .slice (some ⟨b, 0, none⟩) n c
def r4 (KF : KT') (XF : XT) (D : DT) (A : AT) (E : ET) (x y : Value) (h : List (Option Ob)) (o : List (Option Bool)) : Option (Value × St) := (mk Try.prog (KT KF XF D A E) 300).call 4 [x, y] (smSt h.length h o)
def oM (L : List Int) : Option Ob := some (Ob.cells (.ints .u8 L) 5)
end
end hd
end Go.Proofs.Ytmgnpfapigenpaa
namespace Go.Proofs.Ytmgnpfapigenpaa
open Go.ChangeShapes Go.WideShapes Go.ChangeAt Go.RowKit Go.Cln
namespace hd
open hc hx hy hz tb tc td ha
set_option linter.unusedVariables false
noncomputable section
/-- the document's Tag -/
def xl (B : List Int) (p : Int) : List Int := (List.range 64).map fun j => xorI .u8 (ch B j) p
def r14 (KF : KT') (D : DT) (A : AT) (E : ET) (x y : Value) (h : List (Option Ob)) (o : List (Option Bool)) : Option (Value × St) := (mk Try.prog (KT KF (xorI .u8) D A E) 300).call 14 [x, y] (smSt h.length h o)
def o14 : List (Option Bool) := List.replicate 257 none ++ [some false]
def Kw (K : List Int) (n : Nat) : List Int := (K.drop 0).take n
def IN (KF : KT') (W : List Int) (M : List Int) (m : Nat) : List Int := List.take (64 + m) (xl (KF W) 54 ++ List.take m M)
def tgD (KF : KT') (D : DT) (W : List Int) (X : List Int) : sw.N5 := D (xl (KF W) 92 ++ ot1 (D X))
def b11 (KF : KT') (W : List Int) (n : Nat) : Prop := KF = kb ∧ n = W.length ∧ 0 < n ∧ n ≤ 1048576
def b22 (D : DT) (X : List Int) (n : Nat) : Prop := D = shaN ∧ n = X.length ∧ 0 < n ∧ n ≤ 1000000000
def p14 (KF : KT') (D : DT) (K : List Int) (n : Nat) (M : List Int) (m : Nat) : Prop :=
  ((((True ∧ b11 KF (Kw K n) n) ∧ decide (64 + m ≤ 64) = false) ∧ (0 + m ≤ M.length ∧ 0 + 64 ≤ (xl (KF (Kw K n)) 54).length ∧ (64 + m) * 1 ≤ mostBytes ∧ 64 + m ≤ mostBytes)) ∧
    b22 D (IN KF (Kw K n) M m) (64 + m)) ∧ b22 D (xl (KF (Kw K n)) 92 ++ ot1 (D (IN KF (Kw K n) M m))) 84
theorem run14o (KF : KT') (D : DT) (A : AT) (E : ET) (K : List Int) (n c : Nat) (M : List Int) (m d : Nat) : (r14 KF D A E (vs 0 n c) (vs 1 m d) [oM K, oM M] o14).map (fun r => r.2.obl) = some (p14 KF D K n M m) := by kernel_rfl
end
end hd
end Go.Proofs.Ytmgnpfapigenpaa
