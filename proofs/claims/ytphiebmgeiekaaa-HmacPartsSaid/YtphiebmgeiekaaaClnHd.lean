/- Read off the code by the clean reading. -/
import Derived.Test.YtphiebmgeiekaaaClnWa
import Derived.Test.YtphiebmgeiekaaaClnHa
set_option linter.unusedVariables false
set_option linter.unusedSimpArgs false
set_option linter.deprecated false
set_option maxRecDepth 100000
namespace Go.Proofs.Ytphiebmgeiekaaa
open Go.ChangeShapes Go.WideShapes Go.ChangeAt Go.RowKit Go.Cln
namespace ha
set_option linter.unusedVariables false
noncomputable section
theorem knownRuns : ((mk Try.prog (Given.calls sw.F14) 300).call 7 [] (St.start 0 .leaf [])).map (fun r => (r.1, r.2.obl)) = some (.bool true, True) := by kernel_rfl
theorem known (W : World) : Calls Try.prog 7 #[] W fun e w' => e = .returned (.bool true) ∧ Below W.heap.size W w' := ran sw.pg sw.F14_ok knownRuns trivial rfl rfl W
end
end ha
end Go.Proofs.Ytphiebmgeiekaaa
namespace Go.Proofs.Ytphiebmgeiekaaa
open Go.ChangeShapes Go.WideShapes Go.ChangeAt Go.RowKit Go.Cln
namespace hd
open hc hx hy hz tb tc td ha
set_option linter.unusedVariables false
noncomputable section
abbrev XT := Int → Int → Int
noncomputable def XR (XF : XT) (l : List Value) (p : Int) : Value := .agg (rowV .u8 64 (fun j => XF (intAt l j) p)).toArray
/-- padded, told -/
noncomputable def FP (XF : XT) (f : FuncId) (args : List Value) : Option Value := if f == 34 then match args with
  | [.agg x, .int .u8 p] => if x.toList.length = 64 ∧ x.toList.all (isKind .u8) = true then some (XR XF x.toList p) else none
  | _ => none else none
theorem run35 (b : Nat → Int) (p : Int) : ((mk Try.prog Given.nothing 300).call 34 [.agg (rowV .u8 64 b).toArray, .int .u8 p] (St.start 0 .leaf [])).map (fun r => (r.1, r.2.obl)) =
    some (.agg (rowV .u8 64 (fun j => xorI .u8 (b j) p)).toArray, True) := by kernel_rfl
theorem FP_ok : GivenOk Try.prog (Given.calls (FP (xorI .u8))) := GivenOk.calls fun f args v h => by
  unfold FP at h
  split at h
  · rename_i hf
    split at h
    · rename_i x p
      split at h
      · rename_i hc
        simp only [Option.some.injEq] at h
        subst h
        have hf' : f = 34 := by simpa using hf
        subst hf'
        obtain ⟨h3, h4⟩ := hc
        have e2 : x = (rowV .u8 64 (intAt x.toList)).toArray := by rw [rowV_of h3 h4]
        refine ⟨?_, rfl, fun W => ?_⟩
        · rw [e2]; rfl
        · have := ranF sw.pg (GivenOk.nothing _) (run35 (intAt x.toList) p) trivial rfl rfl W
          rw [← e2] at this
          exact this
      · cases h
    · cases h
  · cases h
/-- cells as numbers -/
def iL (r : List Value) : List Int := r.map fun v => match v with | .int _ x => x | _ => 0
theorem iL_get {k : IntKind} {r : List Value} (h : r.all (isKind k) = true) {x : Nat} {a : Int} (hx : (iL r)[x]? = some a) : r[x]? = some (.int k a) := by
  unfold iL at hx
  rw [List.getElem?_map, Option.map_eq_some_iff] at hx
  obtain ⟨v, hv, e⟩ := hx
  have := List.all_eq_true.1 h v (List.mem_of_getElem? hv)
  rw [hv]
  cases v <;> simp [isKind] at this
  subst this
  simp only at e
  rw [e]
theorem iL_win {k : IntKind} {r : List Value} {o n : Nat} (h : ((r.drop o).take n).all (isKind k) = true) : ∀ x a, (iL ((r.drop o).take n))[x]? = some a → r[o + x]? = some (.int k a) := fun x a hx => by
  have := iL_get h hx
  rw [List.getElem?_take] at this
  split at this
  · rw [List.getElem?_drop] at this; exact this
  · cases this
end
end hd
end Go.Proofs.Ytphiebmgeiekaaa
namespace Go.Proofs.Ytphiebmgeiekaaa
open Go.ChangeShapes Go.WideShapes Go.ChangeAt Go.RowKit Go.Cln
namespace hd
open hc hx hy hz tb tc td ha
set_option linter.unusedVariables false
noncomputable section
/-- Write and the document's Sum of cells that are written out, told -/
def FL (A : List Int → HS → HS) (D : List Int → sw.N5) (f : FuncId) (args : List Value) (s : St) : Option Inst := if f == 35 then match args with
  | [.pointer (some ⟨p, 0, none⟩), .slice (some ⟨b, o, g⟩) n c] => match s.heap.get p with
    | some (.cells (.lit l) _) => match s.heap.get b with
      | some (.cells (.lit r) _) => if okH l = true ∧ gOk g = true ∧ ((r.drop o).take n).all (isKind .u8) = true then
          some ⟨[(b, o), (p, 0)], 1, [some (Ob.cells (.ints .u8 (iL ((r.drop o).take n))) 5), some (.cells (.lit l) 77)], [.pointer (some ⟨1, 0, none⟩), .slice (some ⟨0, 0, g⟩) n c], .int .i64 0,
            some (Ob.cells (.ints .u8 (iL ((r.drop o).take n))) 5) :: some (objH (A (iL ((r.drop o).take n)) (hOf l)) (IntKind.i64.wrap (intAt l 70 + (n : Int)))) :: List.replicate 6 none, A = AB ∧ 0 ≤ intAt l 64 ∧ intAt l 64 < 64 ∧ n = (iL ((r.drop o).take n)).length ∧ n ≤ c⟩
        else none
      | _ => none
    | _ => none
  | _ => none else if f == 20 then match args with
  | [.slice (some ⟨b, o, g⟩) n c] => match s.heap.get b with
    | some (.cells (.lit r) _) => if gOk g = true ∧ ((r.drop o).take n).all (isKind .u8) = true then some ⟨[(b, o)], 1, hB (iL ((r.drop o).take n)), [.slice (some ⟨0, 0, g⟩) n c], outV (D (iL ((r.drop o).take n))), out12 (iL ((r.drop o).take n)), D = shaN ∧ n = (iL ((r.drop o).take n)).length ∧ 0 < n ∧ n ≤ 1000000000⟩ else none
    | _ => none
  | _ => none else none
theorem FL_ok (A : List Int → HS → HS) (D : List Int → sw.N5) (f : FuncId) (args : List Value) (s : St) (i : Inst) (h : FL A D f args s = some i) : Fits s i args ∧ (i.ask → CallOk Try.prog f i.args i.s0 i.val i.s1) := by
  unfold FL at h
  split at h
  · rename_i hf
    have hf' : f = 35 := by simpa using hf
    subst hf'
    split at h
    · rename_i p b o g n c
      split at h
      · rename_i l tp hp
        split at h
        · rename_i r tb hb
          split at h
          · rename_i hc
            obtain ⟨hok, hg, hr⟩ := hc
            cases h
            have hl := okH_eq hok
            refine ⟨⟨?_, fun j pp ob h1 h2 => ?_⟩, fun ha => ?_⟩
            · have e : [Value.pointer (some ⟨p, 0, none⟩), .slice (some ⟨b, o, g⟩) n c] = [.pointer (some ⟨p, 0, none⟩), .slice (some ⟨b, addO o 0, g⟩) n c] := by rw [addO_eq]; rfl
              rcases gOk_eq hg with rfl | rfl <;> exact e
            · rcases j with _ | _ | j
              · simp only [List.getElem?_cons_zero, Option.some.injEq] at h1
                subst h1
                simp only [List.getElem?_cons_zero, Option.some.injEq] at h2
                subst h2
                exact ⟨_, hb, fit_intsL (iL_win hr)⟩
              · simp only [Nat.zero_add, List.getElem?_cons_succ, List.getElem?_cons_zero, Option.some.injEq] at h1
                subst h1
                simp only [Nat.zero_add, List.getElem?_cons_succ, List.getElem?_cons_zero, Option.some.injEq] at h2
                subst h2
                exact ⟨_, hp, fit_flat (fun x v hx => by rw [Nat.zero_add]; exact hx) (by rw [hl]; exact cH_flat _ _)⟩
              · simp at h1
            · obtain ⟨rfl, q1, q2, q3, q4⟩ := ha
              have := wr (iL ((r.drop o).take n)) n c g (gOk_eq hg) (hOf l) (intAt l 70) q1 q2 q3 q4
              unfold objH at this
              rw [← hl] at this
              exact this
          · cases h
        · cases h
      · cases h
    · cases h
  · split at h
    · rename_i hf
      have hf' : f = 20 := by simpa using hf
      subst hf'
      split at h
      · rename_i b o g n c
        split at h
        · rename_i r tb hb
          split at h
          · rename_i hgr
            obtain ⟨hg, hr⟩ := hgr
            cases h
            refine ⟨⟨?_, fun j pp ob h1 h2 => ?_⟩, fun ha => ?_⟩
            · have e : [Value.slice (some ⟨b, o, g⟩) n c] = [Value.slice (some ⟨b, addO o 0, g⟩) n c] := by rw [addO_eq]; rfl
              rcases gOk_eq hg with rfl | rfl <;> exact e
            · rcases j with _ | j
              · simp only [List.getElem?_cons_zero, Option.some.injEq] at h1
                subst h1
                simp only [hB, List.getElem?_cons_zero, Option.some.injEq] at h2
                subst h2
                exact ⟨_, hb, fit_intsL (iL_win hr)⟩
              · simp at h1
            · obtain ⟨rfl, q1, q2, q3⟩ := ha
              rcases gOk_eq hg with rfl | rfl
              · exact sumR _ n c q1 q2 q3
              · exact CallOk.grow [] [] (fun c _ => sumR _ n c q1 q2 q3) c
          · cases h
        · cases h
      · cases h
    · cases h
end
end hd
end Go.Proofs.Ytphiebmgeiekaaa
namespace Go.Proofs.Ytphiebmgeiekaaa
open Go.ChangeShapes Go.WideShapes Go.ChangeAt Go.RowKit Go.Cln
namespace hd
open hc hx hy hz tb tc td ha
set_option linter.unusedVariables false
noncomputable section
abbrev KT' := List Int → List Int
abbrev DT := List Int → sw.N5
abbrev AT := List Int → HS → HS
abbrev ET := HS → Nat → sw.N5
def oM (L : List Int) : Option Ob := some (Ob.cells (.ints .u8 L) 5)
def xl (B : List Int) (p : Int) : List Int := (List.range 64).map fun j => xorI .u8 (ch B j) p
def Kw (K : List Int) (n : Nat) : List Int := (K.drop 0).take n
def IN (KF : KT') (W : List Int) (M : List Int) (m : Nat) : List Int := List.take (64 + m) (xl (KF W) 54 ++ List.take m M)
def tgD (KF : KT') (D : DT) (W : List Int) (X : List Int) : sw.N5 := D (xl (KF W) 92 ++ ot1 (D X))
def b11 (KF : KT') (W : List Int) (n : Nat) : Prop := KF = kb ∧ n = W.length ∧ 0 < n ∧ n ≤ 1048576
def b22 (D : DT) (X : List Int) (n : Nat) : Prop := D = shaN ∧ n = X.length ∧ 0 < n ∧ n ≤ 1000000000
def w36 (A : AT) (l : List Value) (W : List Int) (n c : Nat) : Prop := A = AB ∧ 0 ≤ intAt l 64 ∧ intAt l 64 < 64 ∧ n = W.length ∧ n ≤ c
def g36 (A : AT) (l : List Value) (W : List Int) (n : Nat) : List Value := cH (A W (hOf l)) (IntKind.i64.wrap (intAt l 70 + (n : Int)))
def s28 (E : ET) (l : List Value) : Prop := E = DS ∧ 0 ≤ intAt l 70 ∧ intAt l 70 ≤ 1152921504606846976 ∧ intAt l 64 = (((intAt l 70).toNat % 64 : Nat) : Int)
def v28 (E : ET) (l : List Value) : sw.N5 := E (hOf l) (intAt l 70).toNat
def q1 (KF : KT') (A : AT) (W : List Int) : List Value := g36 A l0 (xl (KF W) 54) 64
def q2 (KF : KT') (A : AT) (W X : List Int) (m : Nat) : List Value := g36 A (q1 KF A W) X m
def q3 (KF : KT') (A : AT) (W : List Int) : List Value := g36 A l0 (xl (KF W) 92) 64
def q4 (KF : KT') (A : AT) (W Y : List Int) : List Value := g36 A (q3 KF A W) Y 20
def x12 (A : AT) (E : ET) (KF : KT') (W : List Int) (l : List Value) : Prop := (((True ∧ s28 E l) ∧ w36 A l0 (xl (KF W) 92) 64 64) ∧ w36 A (q3 KF A W) (ot1 (v28 E l)) 20 20) ∧ s28 E (q4 KF A W (ot1 (v28 E l)))
def y12 (A : AT) (E : ET) (KF : KT') (W : List Int) (l : List Value) : Value := .tuple #[outV (v28 E (q4 KF A W (ot1 (v28 E l)))), .int .i64 0]
/-- a hash that has taken these bytes -/
def Hs (l : List Value) (M : List Int) : Prop := SemH (hOf l) M ∧ intAt l 70 = ((M.length : Nat) : Int) ∧ intAt l 64 = ((M.length % 64 : Nat) : Int) ∧ M.length ≤ 1000000 ∧ Byt M
theorem Hs.zero : Hs l0 [] := ⟨SemH.zero, rfl, rfl, by decide, fun x hx => by cases hx⟩
theorem Hs.add {l : List Value} {M X : List Int} {n : Nat} (h : Hs l M) (hX : Byt X) (hn : n = X.length) (hb : M.length + n ≤ 1000000) : Hs (g36 AB l X n) (M ++ X) := by
  obtain ⟨k1, k2, k3, k4, k5⟩ := h
  have s1 := k1.AB k5 hX
  refine ⟨s1.cells _, ?_, ?_, by rw [List.length_append]; omega, byt_app k5 hX⟩
  · show IntKind.i64.wrap (intAt l 70 + (n : Int)) = _
    rw [k2, IntKind.wrap_i64, List.length_append]; omega
  · show (AB X (hOf l)).rn = _
    exact s1.rn
theorem Hs.w {l : List Value} {M X : List Int} {n c : Nat} (h : Hs l M) (hn : n = X.length) (hc : n ≤ c) : w36 AB l X n c := by
  obtain ⟨k1, k2, k3, k4, k5⟩ := h
  exact ⟨rfl, by rw [k3]; omega, by rw [k3]; omega, hn, hc⟩
theorem Hs.s {l : List Value} {M : List Int} (h : Hs l M) : s28 DS l := by
  obtain ⟨k1, k2, k3, k4, k5⟩ := h
  exact ⟨rfl, by rw [k2]; omega, by rw [k2]; omega, by rw [k3, k2, Int.toNat_natCast]⟩
theorem Hs.v {l : List Value} {M : List Int} (h : Hs l M) : v28 DS l = shaN M := by
  obtain ⟨k1, k2, k3, k4, k5⟩ := h
  unfold v28
  rw [k2, Int.toNat_natCast]
  exact k1.DS k5
theorem xl_len (B : List Int) (p : Int) : (xl B p).length = 64 := by unfold xl; simp
theorem xl_byt (B : List Int) (p : Int) : Byt (xl B p) := fun x hx => by
  unfold xl at hx
  obtain ⟨j, _, rfl⟩ := List.mem_map.1 hx
  unfold xorI
  rw [IntKind.wrap_u8]; omega
theorem ot_len (X : sw.N5) : (ot1 X).length = 20 := rfl
theorem ot_byt (X : sw.N5) : Byt (ot1 X) := fun x hx => by
  have key : ∀ (l : List Int), (∀ y ∈ l, ∃ z, y = IntKind.u8.wrap z) → Byt l := fun l h y hy => by
    obtain ⟨z, rfl⟩ := h y hy
    rw [IntKind.wrap_u8]; omega
  revert x hx
  refine key _ fun y hy => ?_
  unfold ot1 be4 at hy
  simp only [List.mem_append, List.mem_cons, List.not_mem_nil, or_false] at hy
  rcases hy with h | h | h | h | h <;> (rcases h with rfl | rfl | rfl | rfl <;> exact ⟨_, rfl⟩)
theorem hs1 (W : List Int) : Hs (q1 kb AB W) (xl (kb W) 54) := by
  have := Hs.zero.add (X := xl (kb W) 54) (n := 64) (xl_byt _ _) (xl_len _ _).symm (by decide)
  exact this
theorem hs2 {W X : List Int} {m : Nat} (hX : Byt X) (hm : m = X.length) (h : m ≤ 10000) : Hs (q2 kb AB W X m) (xl (kb W) 54 ++ X) :=
  (hs1 W).add hX hm (by rw [xl_len]; omega)
theorem hs3 (W : List Int) : Hs (q3 kb AB W) (xl (kb W) 92) := by
  have := Hs.zero.add (X := xl (kb W) 92) (n := 64) (xl_byt _ _) (xl_len _ _).symm (by decide)
  exact this
theorem hs4 (W : List Int) (Y : sw.N5) : Hs (q4 kb AB W (ot1 Y)) (xl (kb W) 92 ++ ot1 Y) :=
  (hs3 W).add (ot_byt Y) rfl (by rw [xl_len]; decide)
/-- the second half of a tag: what is asked, what it answers -/
theorem rest_ok {W M : List Int} {l : List Value} {p : Prop} (h : Hs l M) (hp : p) :
    (((p ∧ s28 DS l) ∧ w36 AB l0 (xl (kb W) 92) 64 64) ∧ w36 AB (q3 kb AB W) (ot1 (v28 DS l)) 20 20) ∧ s28 DS (q4 kb AB W (ot1 (v28 DS l))) :=
  ⟨⟨⟨⟨hp, h.s⟩, Hs.zero.w (xl_len _ _).symm (Nat.le_refl _)⟩, (hs3 W).w rfl (Nat.le_refl _)⟩, (hs4 W _).s⟩
theorem tag_eq {W M : List Int} {l : List Value} (h : Hs l M) : y12 AB DS kb W l = .tuple #[outV (tgD kb shaN W M), .int .i64 0] := by
  unfold y12 tgD
  rw [h.v, (hs4 W _).v]
/-- a tag, as the document says it -/
def tgN (K M : List Int) : sw.N5 := tgD kb shaN K (xl (kb K) 54 ++ M)
def tgV (K M : List Int) : Value := .tuple #[outV (tgN K M), .int .i64 0]
theorem Kw_eq {L : List Int} {n : Nat} (h : n = L.length) : Kw L n = L := by unfold Kw; rw [List.drop_zero, h, List.take_length]
end
end hd
end Go.Proofs.Ytphiebmgeiekaaa
