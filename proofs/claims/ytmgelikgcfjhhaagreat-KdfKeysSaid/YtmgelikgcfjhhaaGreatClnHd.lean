/- Read off the code by the clean reading. -/
import Derived.Test.YtmgelikgcfjhhaaGreatClnHa
set_option linter.unusedVariables false
set_option linter.unusedSimpArgs false
set_option linter.deprecated false
set_option maxRecDepth 100000
namespace Go.Proofs.YtmgelikgcfjhhaaGreat
open Go.ChangeShapes Go.WideShapes Go.ChangeAt Go.RowKit Go.Cln
namespace hd
open hc hx hy hz tb tc td ha
set_option linter.unusedVariables false
noncomputable section
abbrev XT := Int → Int → Int
noncomputable def XR (XF : XT) (l : List Value) (p : Int) : Value := .agg (rowV .u8 64 (fun j => XF (intAt l j) p)).toArray
noncomputable def FP (XF : XT) (f : FuncId) (args : List Value) : Option Value := if f == 139 then match args with
  | [.agg x, .int .u8 p] => if x.toList.length = 64 ∧ x.toList.all (isKind .u8) = true then some (XR XF x.toList p) else none
  | _ => none else none
theorem run35 (b : Nat → Int) (p : Int) : ((mk Tryz.prog Given.nothing 300).call 139 [.agg (rowV .u8 64 b).toArray, .int .u8 p] (St.start 0 .leaf [])).map (fun r => (r.1, r.2.obl)) =
    some (.agg (rowV .u8 64 (fun j => xorI .u8 (b j) p)).toArray, True) := by kernel_rfl
theorem FP_ok : GivenOk Tryz.prog (Given.calls (FP (xorI .u8))) := GivenOk.calls fun f args v h => by
  unfold FP at h
  split at h
  · rename_i hf
    split at h
    · rename_i x p
      split at h
      · rename_i hc
        simp only [Option.some.injEq] at h
        subst h
        have hf' : f = 139 := by simpa using hf
        subst hf'
        obtain ⟨h3, h4⟩ := hc
        have e2 : x = (rowV .u8 64 (intAt x.toList)).toArray := by rw [rowV_of h3 h4]
        refine ⟨?_, rfl, fun W => ?_⟩
        · rw [e2]; rfl
        · have := ranF sw.pg (GivenOk.nothing _) (run35 (intAt x.toList) p) trivial rfl rfl W
          rw [← e2] at this
          exact this
      · cases h
    · cases h
  · cases h
def iL (r : List Value) : List Int := r.map fun v => match v with | .int _ x => x | _ => 0
theorem iL_get {k : IntKind} {r : List Value} (h : r.all (isKind k) = true) {x : Nat} {a : Int} (hx : (iL r)[x]? = some a) : r[x]? = some (.int k a) := by
  unfold iL at hx
  rw [List.getElem?_map, Option.map_eq_some_iff] at hx
  obtain ⟨v, hv, e⟩ := hx
  have := List.all_eq_true.1 h v (List.mem_of_getElem? hv)
  rw [hv]
  cases v <;> simp [isKind] at this
  subst this
  simp only at e
  rw [e]
theorem iL_win {k : IntKind} {r : List Value} {o n : Nat} (h : ((r.drop o).take n).all (isKind k) = true) : ∀ x a, (iL ((r.drop o).take n))[x]? = some a → r[o + x]? = some (.int k a) := fun x a hx => by
  have := iL_get h hx
  rw [List.getElem?_take] at this
  split at this
  · rw [List.getElem?_drop] at this; exact this
  · cases this
end
end hd
end Go.Proofs.YtmgelikgcfjhhaaGreat
namespace Go.Proofs.YtmgelikgcfjhhaaGreat
open Go.ChangeShapes Go.WideShapes Go.ChangeAt Go.RowKit Go.Cln
namespace hd
open hc hx hy hz tb tc td ha
set_option linter.unusedVariables false
noncomputable section
def FL (A : List Int → HS → HS) (D : List Int → sw.N5) (f : FuncId) (args : List Value) (s : St) : Option Inst := if f == 140 then match args with
  | [.pointer (some ⟨p, 0, none⟩), .slice (some ⟨b, o, g⟩) n c] => match s.heap.get p with
    | some (.cells (.lit l) _) => match s.heap.get b with
      | some (.cells (.lit r) _) => if okH l = true ∧ gOk g = true ∧ ((r.drop o).take n).all (isKind .u8) = true then
          some ⟨[(b, o), (p, 0)], 1, [some (Ob.cells (.ints .u8 (iL ((r.drop o).take n))) 5), some (.cells (.lit l) 213)], [.pointer (some ⟨1, 0, none⟩), .slice (some ⟨0, 0, g⟩) n c], .int .i64 0,
            some (Ob.cells (.ints .u8 (iL ((r.drop o).take n))) 5) :: some (objH (A (iL ((r.drop o).take n)) (hOf l)) (IntKind.i64.wrap (intAt l 70 + (n : Int)))) :: List.replicate 6 none, A = AB ∧ 0 ≤ intAt l 64 ∧ intAt l 64 < 64 ∧ n = (iL ((r.drop o).take n)).length ∧ n ≤ c⟩
        else none
      | _ => none
    | _ => none
  | _ => none else if f == 70 then match args with
  | [.slice (some ⟨b, o, g⟩) n c] => match s.heap.get b with
    | some (.cells (.lit r) _) => if ((r.drop o).take n).all (isKind .u8) = true then some ⟨[(b, o)], 1, hB (iL ((r.drop o).take n)), [.slice (some ⟨0, 0, g⟩) n c], outV (D (iL ((r.drop o).take n))), out12 (iL ((r.drop o).take n)), D = shaN ∧ n = (iL ((r.drop o).take n)).length ∧ 0 < n ∧ n ≤ 1000000000⟩ else none
    | _ => none
  | _ => none else none
theorem FL_ok (A : List Int → HS → HS) (D : List Int → sw.N5) (f : FuncId) (args : List Value) (s : St) (i : Inst) (h : FL A D f args s = some i) : Fits s i args ∧ (i.ask → CallOk Tryz.prog f i.args i.s0 i.val i.s1) := by
  unfold FL at h
  split at h
  · rename_i hf
    have hf' : f = 140 := by simpa using hf
    subst hf'
    split at h
    · rename_i p b o g n c
      split at h
      · rename_i l tp hp
        split at h
        · rename_i r tb hb
          split at h
          · rename_i hc
            obtain ⟨hok, hg, hr⟩ := hc
            cases h
            have hl := okH_eq hok
            refine ⟨⟨?_, fun j pp ob h1 h2 => ?_⟩, fun ha => ?_⟩
            · show [Value.pointer (some ⟨p, 0, none⟩), .slice (some ⟨b, o, g⟩) n c] = [.pointer (some ⟨p, 0, none⟩), .slice (some ⟨b, addO o 0, g⟩) n c]
              rw [addO_eq]; rfl
            · rcases j with _ | _ | j
              · simp only [List.getElem?_cons_zero, Option.some.injEq] at h1
                subst h1
                simp only [List.getElem?_cons_zero, Option.some.injEq] at h2
                subst h2
                exact ⟨_, hb, fit_intsL (iL_win hr)⟩
              · simp only [Nat.zero_add, List.getElem?_cons_succ, List.getElem?_cons_zero, Option.some.injEq] at h1
                subst h1
                simp only [Nat.zero_add, List.getElem?_cons_succ, List.getElem?_cons_zero, Option.some.injEq] at h2
                subst h2
                exact ⟨_, hp, fit_flat (fun x v hx => by rw [Nat.zero_add]; exact hx) (by rw [hl]; exact cH_flat _ _)⟩
              · simp at h1
            · obtain ⟨rfl, q1, q2, q3, q4⟩ := ha
              have := wr (iL ((r.drop o).take n)) n c g (gOk_eq hg) (hOf l) (intAt l 70) q1 q2 q3 q4
              unfold objH at this
              rw [← hl] at this
              exact this
          · cases h
        · cases h
      · cases h
    · cases h
  · split at h
    · rename_i hf
      have hf' : f = 70 := by simpa using hf
      subst hf'
      split at h
      · rename_i b o g n c
        split at h
        · rename_i r tb hb
          split at h
          · rename_i hr
            cases h
            refine ⟨⟨?_, fun j pp ob h1 h2 => ?_⟩, fun ha => ?_⟩
            · show [Value.slice (some ⟨b, o, g⟩) n c] = [Value.slice (some ⟨b, addO o 0, g⟩) n c]
              rw [addO_eq]; rfl
            · rcases j with _ | j
              · simp only [List.getElem?_cons_zero, Option.some.injEq] at h1
                subst h1
                simp only [hB, List.getElem?_cons_zero, Option.some.injEq] at h2
                subst h2
                exact ⟨_, hb, fit_intsL (iL_win hr)⟩
              · simp at h1
            · obtain ⟨rfl, q1, q2, q3⟩ := ha
              exact sumR _ n c g q1 q2 q3
          · cases h
        · cases h
      · cases h
    · cases h
def FT (KF : List Int → List Int) (D : List Int → sw.N5) (A : List Int → HS → HS) (E : HS → Nat → sw.N5) (f : FuncId) (args : List Value) (s : St) : Option Inst := match FA D A E f args s with
  | some i => some i
  | none => match FB2 KF f args s with
    | some i => some i
    | none => FL A D f args s
theorem FT_ok (KF : List Int → List Int) (D : List Int → sw.N5) (A : List Int → HS → HS) (E : HS → Nat → sw.N5) (f : FuncId) (args : List Value) (s : St) (i : Inst) (h : FT KF D A E f args s = some i) : Fits s i args ∧ (i.ask → CallOk Tryz.prog f i.args i.s0 i.val i.s1) := by
  unfold FT at h
  split at h
  · rename_i j h1
    cases h; exact FA_ok D A E f args s _ h1
  · split at h
    · rename_i j h1
      cases h; exact FB2_ok KF f args s _ h1
    · exact FL_ok A D f args s _ h
end
end hd
end Go.Proofs.YtmgelikgcfjhhaaGreat
namespace Go.Proofs.YtmgelikgcfjhhaaGreat
open Go.ChangeShapes Go.WideShapes Go.ChangeAt Go.RowKit Go.Cln
namespace hd
open hc hx hy hz tb tc td ha
set_option linter.unusedVariables false
noncomputable section
abbrev DT := List Int → sw.N5
abbrev AT := List Int → HS → HS
abbrev ET := HS → Nat → sw.N5
def KT (KF : KT') (XF : XT) (D : DT) (A : AT) (E : ET) : Given := { Given.frames (Given.calls (FP XF)) (FT KF D A E) with fits := true }
theorem KT_ok (KF : KT') (D : DT) (A : AT) (E : ET) : GivenOk Tryz.prog (KT KF (xorI .u8) D A E) := frames_fits (FP_ok.frames (FT_ok KF D A E)) true
def vs (b n c : Nat) : Value := .slice (some ⟨b, 0, none⟩) n c
def oM (L : List Int) : Option Ob := some (Ob.cells (.ints .u8 L) 5)
end
end hd
end Go.Proofs.YtmgelikgcfjhhaaGreat
namespace Go.Proofs.YtmgelikgcfjhhaaGreat
open Go.ChangeShapes Go.WideShapes Go.ChangeAt Go.RowKit Go.Cln
namespace hd
open hc hx hy hz tb tc td ha
set_option linter.unusedVariables false
noncomputable section
def xl (B : List Int) (p : Int) : List Int := (List.range 64).map fun j => xorI .u8 (ch B j) p
def r14 (KF : KT') (D : DT) (A : AT) (E : ET) (x y : Value) (h : List (Option Ob)) (o : List (Option Bool)) : Option (Value × St) := (mk Tryz.prog (KT KF (xorI .u8) D A E) 300).call 44 [x, y] (smSt h.length h o)
def o14 : List (Option Bool) := List.replicate 257 none ++ [some false]
def Kw (K : List Int) (n : Nat) : List Int := (K.drop 0).take n
def IN (KF : KT') (W : List Int) (M : List Int) (m : Nat) : List Int := List.take (64 + m) (xl (KF W) 54 ++ List.take m M)
def tgD (KF : KT') (D : DT) (W : List Int) (X : List Int) : sw.N5 := D (xl (KF W) 92 ++ ot1 (D X))
def b11 (KF : KT') (W : List Int) (n : Nat) : Prop := KF = kb ∧ n = W.length ∧ 0 < n ∧ n ≤ 1048576
def b22 (D : DT) (X : List Int) (n : Nat) : Prop := D = shaN ∧ n = X.length ∧ 0 < n ∧ n ≤ 1000000000
end
end hd
end Go.Proofs.YtmgelikgcfjhhaaGreat
namespace Go.Proofs.YtmgelikgcfjhhaaGreat
open Go.ChangeShapes Go.WideShapes Go.ChangeAt Go.RowKit Go.Cln
namespace hd
open hc hx hy hz tb tc td ha
set_option linter.unusedVariables false
noncomputable section
def r12 (KF : KT') (D : DT) (A : AT) (E : ET) (x y : Value) (k z : Option Ob) (o : List (Option Bool)) : Option (Value × St) := (mk Tryz.prog (KT KF (xorI .u8) D A E) 300).call 67 [x, .slice (some ⟨1, 0, none⟩) 1 1] (smSt 3 [k, some (.cells (.lit [y]) 23), z] o)
def v1 (b n c : Nat) : Value := .slice (some ⟨b, 0, some 1⟩) n c
def w36 (A : AT) (l : List Value) (W : List Int) (n c : Nat) : Prop := A = AB ∧ 0 ≤ intAt l 64 ∧ intAt l 64 < 64 ∧ n = W.length ∧ n ≤ c
def g36 (A : AT) (l : List Value) (W : List Int) (n : Nat) : List Value := cH (A W (hOf l)) (IntKind.i64.wrap (intAt l 70 + (n : Int)))
def s28 (E : ET) (l : List Value) : Prop := E = DS ∧ 0 ≤ intAt l 70 ∧ intAt l 70 ≤ 1152921504606846976 ∧ intAt l 64 = (((intAt l 70).toNat % 64 : Nat) : Int)
def v28 (E : ET) (l : List Value) : sw.N5 := E (hOf l) (intAt l 70).toNat
def b9 (KF : KT') (W : List Int) (n c : Nat) : Prop := KF = kb ∧ Byt W ∧ n = W.length ∧ 0 < n ∧ n ≤ c ∧ n ≤ 1048576
def q1 (KF : KT') (A : AT) (W : List Int) : List Value := g36 A l0 (xl (KF W) 54) 64
def q2 (KF : KT') (A : AT) (W X : List Int) (m : Nat) : List Value := g36 A (q1 KF A W) X m
def q3 (KF : KT') (A : AT) (W : List Int) : List Value := g36 A l0 (xl (KF W) 92) 64
def q4 (KF : KT') (A : AT) (W Y : List Int) : List Value := g36 A (q3 KF A W) Y 20
def o12 : List (Option Bool) := List.replicate 5 none ++ [some true]
end
end hd
end Go.Proofs.YtmgelikgcfjhhaaGreat
namespace Go.Proofs.YtmgelikgcfjhhaaGreat
open Go.ChangeShapes Go.WideShapes Go.ChangeAt Go.RowKit Go.Cln
namespace hd
open hc hx hy hz tb tc td ha
set_option linter.unusedVariables false
noncomputable section
def y12 (A : AT) (E : ET) (KF : KT') (W : List Int) (l : List Value) : Value := .tuple #[outV (v28 E (q4 KF A W (ot1 (v28 E l)))), .int .i64 0]
def P12ii (KF : KT') (A : AT) (E : ET) (K : List Int) (n c : Nat) (M : List Int) (m d : Nat) : Prop := (((((((True ∧ b9 KF (Kw K n) n c) ∧ w36 A l0 (xl (KF (Kw K n)) 54) 64 64) ∧ decide ((m : Int) > 0) = true) ∧ w36 A (q1 KF A (Kw K n)) (Kw M m) m d) ∧ s28 E (q2 KF A (Kw K n) (Kw M m) m)) ∧ w36 A l0 (xl (KF (Kw K n)) 92) 64 64) ∧ w36 A (q3 KF A (Kw K n)) (ot1 (v28 E (q2 KF A (Kw K n) (Kw M m) m))) 20 20) ∧ s28 E (q4 KF A (Kw K n) (ot1 (v28 E (q2 KF A (Kw K n) (Kw M m) m))))
def h12ii (K : List Int) (n c : Nat) (M : List Int) (m d : Nat) : List (Option Ob) := oM K :: some (.cells (.lit [.slice (some ⟨2, 0, some 1⟩) m d]) 23) :: oM M :: ha.nn 115
theorem N12ii (KF : KT') (D : DT) (A : AT) (E : ET) (K : List Int) (n c : Nat) (M : List Int) (m d : Nat) : (r12 KF D A E (vs 0 n c) (v1 2 m d) (oM K) (oM M) o12).map (fun r => (r.1, r.2.obl, r.2.next, keepL (true :: true :: true :: List.replicate 115 false) r.2.heap.get 0)) = some (y12 A E KF (Kw K n) (q2 KF A (Kw K n) (Kw M m) m), P12ii KF A E K n c M m d, (h12ii K n c M m d).length, h12ii K n c M m d) := by kernel_rfl
def P12ie (KF : KT') (A : AT) (E : ET) (K : List Int) (n c : Nat) (d : Nat) : Prop := (((((True ∧ b9 KF (Kw K n) n c) ∧ w36 A l0 (xl (KF (Kw K n)) 54) 64 64) ∧ s28 E (q1 KF A (Kw K n))) ∧ w36 A l0 (xl (KF (Kw K n)) 92) 64 64) ∧ w36 A (q3 KF A (Kw K n)) (ot1 (v28 E (q1 KF A (Kw K n)))) 20 20) ∧ s28 E (q4 KF A (Kw K n) (ot1 (v28 E (q1 KF A (Kw K n)))))
def h12ie (K : List Int) (n c : Nat) (d : Nat) : List (Option Ob) := oM K :: some (.cells (.lit [.slice (some ⟨2, 0, none⟩) 0 d]) 23) :: none :: ha.nn 108
theorem N12ie (KF : KT') (D : DT) (A : AT) (E : ET) (K : List Int) (n c : Nat) (d : Nat) : (r12 KF D A E (vs 0 n c) (vs 2 0 d) (oM K) none []).map (fun r => (r.1, r.2.obl, r.2.next, keepL (true :: true :: false :: List.replicate 108 false) r.2.heap.get 0)) = some (y12 A E KF (Kw K n) (q1 KF A (Kw K n)), P12ie KF A E K n c d, (h12ie K n c d).length, h12ie K n c d) := by kernel_rfl
end
end hd
end Go.Proofs.YtmgelikgcfjhhaaGreat
namespace Go.Proofs.YtmgelikgcfjhhaaGreat
open Go.ChangeShapes Go.WideShapes Go.ChangeAt Go.RowKit Go.Cln
namespace hd
open hc hx hy hz tb tc td ha
set_option linter.unusedVariables false
noncomputable section
def Hs (l : List Value) (M : List Int) : Prop := SemH (hOf l) M ∧ intAt l 70 = ((M.length : Nat) : Int) ∧ intAt l 64 = ((M.length % 64 : Nat) : Int) ∧ M.length ≤ 1000000 ∧ Byt M
theorem Hs.zero : Hs l0 [] := ⟨SemH.zero, rfl, rfl, by decide, fun x hx => by cases hx⟩
theorem Hs.add {l : List Value} {M X : List Int} {n : Nat} (h : Hs l M) (hX : Byt X) (hn : n = X.length) (hb : M.length + n ≤ 1000000) : Hs (g36 AB l X n) (M ++ X) := by
  obtain ⟨k1, k2, k3, k4, k5⟩ := h
  have s1 := k1.AB k5 hX
  refine ⟨s1.cells _, ?_, ?_, by rw [List.length_append]; omega, byt_app k5 hX⟩
  · show IntKind.i64.wrap (intAt l 70 + (n : Int)) = _
    rw [k2, IntKind.wrap_i64, List.length_append]; omega
  · show (AB X (hOf l)).rn = _
    exact s1.rn
theorem Hs.w {l : List Value} {M X : List Int} {n c : Nat} (h : Hs l M) (hn : n = X.length) (hc : n ≤ c) : w36 AB l X n c := by
  obtain ⟨k1, k2, k3, k4, k5⟩ := h
  exact ⟨rfl, by rw [k3]; omega, by rw [k3]; omega, hn, hc⟩
theorem Hs.s {l : List Value} {M : List Int} (h : Hs l M) : s28 DS l := by
  obtain ⟨k1, k2, k3, k4, k5⟩ := h
  exact ⟨rfl, by rw [k2]; omega, by rw [k2]; omega, by rw [k3, k2, Int.toNat_natCast]⟩
theorem Hs.v {l : List Value} {M : List Int} (h : Hs l M) : v28 DS l = shaN M := by
  obtain ⟨k1, k2, k3, k4, k5⟩ := h
  unfold v28
  rw [k2, Int.toNat_natCast]
  exact k1.DS k5
theorem xl_len (B : List Int) (p : Int) : (xl B p).length = 64 := by unfold xl; simp
theorem xl_byt (B : List Int) (p : Int) : Byt (xl B p) := fun x hx => by
  unfold xl at hx
  obtain ⟨j, _, rfl⟩ := List.mem_map.1 hx
  unfold xorI
  rw [IntKind.wrap_u8]; omega
theorem ot_len (X : sw.N5) : (ot1 X).length = 20 := rfl
theorem ot_byt (X : sw.N5) : Byt (ot1 X) := fun x hx => by
  have key : ∀ (l : List Int), (∀ y ∈ l, ∃ z, y = IntKind.u8.wrap z) → Byt l := fun l h y hy => by
    obtain ⟨z, rfl⟩ := h y hy
    rw [IntKind.wrap_u8]; omega
  revert x hx
  refine key _ fun y hy => ?_
  unfold ot1 be4 at hy
  simp only [List.mem_append, List.mem_cons, List.not_mem_nil, or_false] at hy
  rcases hy with h | h | h | h | h <;> (rcases h with rfl | rfl | rfl | rfl <;> exact ⟨_, rfl⟩)
theorem hs1 (W : List Int) : Hs (q1 kb AB W) (xl (kb W) 54) := by
  have := Hs.zero.add (X := xl (kb W) 54) (n := 64) (xl_byt _ _) (xl_len _ _).symm (by decide)
  exact this
theorem hs2 {W X : List Int} {m : Nat} (hX : Byt X) (hm : m = X.length) (h : m ≤ 10000) : Hs (q2 kb AB W X m) (xl (kb W) 54 ++ X) :=
  (hs1 W).add hX hm (by rw [xl_len]; omega)
theorem hs3 (W : List Int) : Hs (q3 kb AB W) (xl (kb W) 92) := by
  have := Hs.zero.add (X := xl (kb W) 92) (n := 64) (xl_byt _ _) (xl_len _ _).symm (by decide)
  exact this
theorem hs4 (W : List Int) (Y : sw.N5) : Hs (q4 kb AB W (ot1 Y)) (xl (kb W) 92 ++ ot1 Y) :=
  (hs3 W).add (ot_byt Y) rfl (by rw [xl_len]; decide)
theorem rest_ok {W M : List Int} {l : List Value} {p : Prop} (h : Hs l M) (hp : p) :
    (((p ∧ s28 DS l) ∧ w36 AB l0 (xl (kb W) 92) 64 64) ∧ w36 AB (q3 kb AB W) (ot1 (v28 DS l)) 20 20) ∧ s28 DS (q4 kb AB W (ot1 (v28 DS l))) :=
  ⟨⟨⟨⟨hp, h.s⟩, Hs.zero.w (xl_len _ _).symm (Nat.le_refl _)⟩, (hs3 W).w rfl (Nat.le_refl _)⟩, (hs4 W _).s⟩
theorem tag_eq {W M : List Int} {l : List Value} (h : Hs l M) : y12 AB DS kb W l = .tuple #[outV (tgD kb shaN W M), .int .i64 0] := by
  unfold y12 tgD
  rw [h.v, (hs4 W _).v]
end
end hd
end Go.Proofs.YtmgelikgcfjhhaaGreat
namespace Go.Proofs.YtmgelikgcfjhhaaGreat
open Go.ChangeShapes Go.WideShapes Go.ChangeAt Go.RowKit Go.Cln
namespace hd
open hc hx hy hz tb tc td ha
set_option linter.unusedVariables false
noncomputable section
theorem Kw_eq {L : List Int} {n : Nat} (h : n = L.length) : Kw L n = L := by unfold Kw; rw [List.drop_zero, h, List.take_length]
def tgN (K M : List Int) : sw.N5 := tgD kb shaN K (xl (kb K) 54 ++ M)
def tgV (K M : List Int) : Value := .tuple #[outV (tgN K M), .int .i64 0]
def part (y : Value) : Option Ob := some (.cells (.lit [y]) 23)
def ps : Value := .slice (some ⟨1, 0, none⟩) 1 1
theorem t12ii (K : List Int) (n c : Nat) (M : List Int) (m d : Nat) (hK : Byt K) (hn : n = K.length) (h0 : 0 < n) (hc : n ≤ c) (h1 : n ≤ 1000) (hM : Byt M) (hm : m = M.length) (g0 : 0 < m) (hd : m ≤ d) (g1 : m ≤ 1000) :
    CallOk Tryz.prog 67 [vs 0 n c, ps] (smSt 3 [oM K, part (v1 2 m d), oM M] []) (tgV K M) (smSt 3 (h12ii K n c M m d) []) := by
  have e1 := Kw_eq hn
  have e2 := Kw_eq hm
  have hh : Hs (q2 kb AB (Kw K n) (Kw M m) m) (xl (kb K) 54 ++ M) := by rw [e1, e2]; exact hs2 hM hm (by omega)
  have hp : P12ii kb AB DS K n c M m d := by
    refine rest_ok hh ⟨⟨⟨⟨trivial, rfl, ?_, ?_, h0, hc, by omega⟩, Hs.zero.w (xl_len _ _).symm (Nat.le_refl _)⟩, by rw [decide_eq_true_eq]; omega⟩, (hs1 _).w (by rw [e2]; exact hm) hd⟩
    · rw [e1]; exact hK
    · rw [e1]; exact hn
  have := frame_by sw.pg (KT_ok kb shaN AB DS) _ (N12ii kb shaN AB DS K n c M m d) hp (by rfl) rfl
  rw [tag_eq hh, e1] at this
  exact this
theorem t12ie (K : List Int) (n c d : Nat) (hK : Byt K) (hn : n = K.length) (h0 : 0 < n) (hc : n ≤ c) (h1 : n ≤ 1000) :
    CallOk Tryz.prog 67 [vs 0 n c, ps] (smSt 3 [oM K, part (vs 2 0 d), none] []) (tgV K []) (smSt 3 (h12ie K n c d) []) := by
  have e1 := Kw_eq hn
  have hh : Hs (q1 kb AB (Kw K n)) (xl (kb K) 54 ++ []) := by rw [e1, List.append_nil]; exact hs1 K
  have hp : P12ie kb AB DS K n c d := by
    refine rest_ok hh ⟨⟨trivial, rfl, ?_, ?_, h0, hc, by omega⟩, Hs.zero.w (xl_len _ _).symm (Nat.le_refl _)⟩
    · rw [e1]; exact hK
    · rw [e1]; exact hn
  have := frame_by sw.pg (KT_ok kb shaN AB DS) _ (N12ie kb shaN AB DS K n c d) hp (by rfl) rfl
  rw [tag_eq hh, e1] at this
  exact this
end
end hd
end Go.Proofs.YtmgelikgcfjhhaaGreat
namespace Go.Proofs.YtmgelikgcfjhhaaGreat
open Go.ChangeShapes Go.WideShapes Go.ChangeAt Go.RowKit Go.Cln
namespace hd
open hc hx hy hz tb tc td ha
set_option linter.unusedVariables false
noncomputable section
def P14ii (KF : KT') (D : DT) (K : List Int) (n c : Nat) (M : List Int) (m d : Nat) : Prop := ((((True ∧ b11 KF (Kw K n) n) ∧ decide (64 + m ≤ 64) = false) ∧ (0 + m ≤ M.length ∧ 0 + 64 ≤ (xl (KF (Kw K n)) 54).length ∧ (64 + m) * 1 ≤ mostBytes ∧ 64 + m ≤ mostBytes)) ∧ b22 D (IN KF (Kw K n) M m) (64 + m)) ∧ b22 D (xl (KF (Kw K n)) 92 ++ ot1 (D (IN KF (Kw K n) M m))) 84
def h14ii (K : List Int) (n c : Nat) (M : List Int) (m d : Nat) : List (Option Ob) := [oM K, oM M] ++ ha.nn 339
theorem N14ii (KF : KT') (D : DT) (A : AT) (E : ET) (K : List Int) (n c : Nat) (M : List Int) (m d : Nat) : (r14 KF D A E (vs 0 n c) (vs 1 m d) [oM K, oM M] o14).map (fun r => (r.1, r.2.obl, r.2.next, keepL ([true, true] ++ List.replicate 339 false) r.2.heap.get 0)) = some (outV (tgD KF D (Kw K n) (IN KF (Kw K n) M m)), P14ii KF D K n c M m d, (h14ii K n c M m d).length, h14ii K n c M m d) := by kernel_rfl
theorem t14ii (K : List Int) (n c : Nat) (M : List Int) (m d : Nat) (hn : n = K.length) (h0 : 0 < n) (h1 : n ≤ 1000) (hm : m = M.length) (g0 : 0 < m) (g1 : m ≤ 1000) : CallOk Tryz.prog 44 [(vs 0 n c), (vs 1 m d)] (smSt 2 [oM K, oM M] []) (outV (tgN K M)) (smSt 2 (h14ii K n c M m d) []) := by
  have eX : (IN kb (Kw K n) M m) = xl (kb K) 54 ++ M := by unfold IN; rw [Kw_eq hn, hm, List.take_length]; exact List.take_of_length_le (by rw [List.length_append, xl_len]; omega)
  have hp : P14ii kb shaN K n c M m d := by
    refine ⟨⟨⟨⟨⟨trivial, ⟨rfl, by rw [Kw_eq hn]; exact hn, h0, by omega⟩⟩, by rw [decide_eq_false_iff_not]; omega⟩, by omega, by rw [xl_len]; omega, by unfold mostBytes; omega, by unfold mostBytes; omega⟩, rfl, ?_, by omega, by omega⟩, rfl, ?_, by omega, by omega⟩
    · rw [eX, List.length_append, xl_len]; omega
    · rw [List.length_append, xl_len, ot_len]
  have := frame_by sw.pg (KT_ok kb shaN AB DS) _ (N14ii kb shaN AB DS K n c M m d) hp (by rfl) rfl
  rw [eX, Kw_eq hn] at this
  exact this
def P14in (KF : KT') (D : DT) (K : List Int) (n c : Nat) : Prop := ((True ∧ b11 KF (Kw K n) n) ∧ b22 D (xl (KF (Kw K n)) 54) 64) ∧ b22 D (xl (KF (Kw K n)) 92 ++ ot1 (D (xl (KF (Kw K n)) 54))) 84
def h14in (K : List Int) (n c : Nat) : List (Option Ob) := [oM K] ++ ha.nn 338
theorem N14in (KF : KT') (D : DT) (A : AT) (E : ET) (K : List Int) (n c : Nat) : (r14 KF D A E (vs 0 n c) (.slice none 0 0) [oM K] []).map (fun r => (r.1, r.2.obl, r.2.next, keepL ([true] ++ List.replicate 338 false) r.2.heap.get 0)) = some (outV (tgD KF D (Kw K n) (xl (KF (Kw K n)) 54)), P14in KF D K n c, (h14in K n c).length, h14in K n c) := by kernel_rfl
theorem t14in (K : List Int) (n c : Nat) (hn : n = K.length) (h0 : 0 < n) (h1 : n ≤ 1000) : CallOk Tryz.prog 44 [(vs 0 n c), (.slice none 0 0)] (smSt 1 [oM K] []) (outV (tgN K [])) (smSt 1 (h14in K n c) []) := by
  have eX : (xl (kb (Kw K n)) 54) = xl (kb K) 54 ++ [] := by rw [List.append_nil, Kw_eq hn]
  have hp : P14in kb shaN K n c := by
    refine ⟨⟨⟨trivial, ⟨rfl, by rw [Kw_eq hn]; exact hn, h0, by omega⟩⟩, rfl, ?_, by omega, by omega⟩, rfl, ?_, by omega, by omega⟩
    · rw [xl_len]
    · rw [List.length_append, xl_len, ot_len]
  have := frame_by sw.pg (KT_ok kb shaN AB DS) _ (N14in kb shaN AB DS K n c) hp (by rfl) rfl
  rw [eX, Kw_eq hn] at this
  exact this
def P14iz (KF : KT') (D : DT) (K : List Int) (n c : Nat) (d : Nat) : Prop := ((True ∧ b11 KF (Kw K n) n) ∧ b22 D (xl (KF (Kw K n)) 54) 64) ∧ b22 D (xl (KF (Kw K n)) 92 ++ ot1 (D (xl (KF (Kw K n)) 54))) 84
def h14iz (K : List Int) (n c : Nat) (d : Nat) : List (Option Ob) := [oM K, none] ++ ha.nn 338
theorem N14iz (KF : KT') (D : DT) (A : AT) (E : ET) (K : List Int) (n c : Nat) (d : Nat) : (r14 KF D A E (vs 0 n c) (vs 1 0 d) [oM K, none] []).map (fun r => (r.1, r.2.obl, r.2.next, keepL ([true, false] ++ List.replicate 338 false) r.2.heap.get 0)) = some (outV (tgD KF D (Kw K n) (xl (KF (Kw K n)) 54)), P14iz KF D K n c d, (h14iz K n c d).length, h14iz K n c d) := by kernel_rfl
theorem t14iz (K : List Int) (n c : Nat) (d : Nat) (hn : n = K.length) (h0 : 0 < n) (h1 : n ≤ 1000) : CallOk Tryz.prog 44 [(vs 0 n c), (vs 1 0 d)] (smSt 2 [oM K, none] []) (outV (tgN K [])) (smSt 2 (h14iz K n c d) []) := by
  have eX : (xl (kb (Kw K n)) 54) = xl (kb K) 54 ++ [] := by rw [List.append_nil, Kw_eq hn]
  have hp : P14iz kb shaN K n c d := by
    refine ⟨⟨⟨trivial, ⟨rfl, by rw [Kw_eq hn]; exact hn, h0, by omega⟩⟩, rfl, ?_, by omega, by omega⟩, rfl, ?_, by omega, by omega⟩
    · rw [xl_len]
    · rw [List.length_append, xl_len, ot_len]
  have := frame_by sw.pg (KT_ok kb shaN AB DS) _ (N14iz kb shaN AB DS K n c d) hp (by rfl) rfl
  rw [eX, Kw_eq hn] at this
  exact this
end
end hd
end Go.Proofs.YtmgelikgcfjhhaaGreat
