/- Read off the code by the clean reading. -/
import Derived.Test.YtgljibcokcgfbaaClnWa
import Derived.Test.YtgljibcokcgfbaaClnTa
import Derived.Test.YtgljibcokcgfbaaClnQc
set_option linter.unusedVariables false
set_option linter.unusedSimpArgs false
set_option linter.deprecated false
set_option maxRecDepth 100000
namespace Go.Proofs.Ytgljibcokcgfbaa
open Go.ChangeShapes Go.WideShapes Go.ChangeAt Go.RowKit Go.Cln
namespace ha
set_option linter.unusedVariables false
noncomputable section
theorem knownRuns : ((mk Try.prog (Given.calls sw.F14) 300).call 6 [] (St.start 0 .leaf [])).map (fun r => (r.1, r.2.obl)) = some (.bool true, True) := by kernel_rfl
theorem known (W : World) : Calls Try.prog 6 #[] W fun e w' => e = .returned (.bool true) ∧ Below W.heap.size W w' := ran sw.pg sw.F14_ok knownRuns trivial rfl rfl W
end
end ha
end Go.Proofs.Ytgljibcokcgfbaa
namespace Go.Proofs.Ytgljibcokcgfbaa
open Go.ChangeShapes Go.WideShapes Go.ChangeAt Go.RowKit Go.Cln
namespace hd
open hc hx hy hz tb tc td ha
set_option linter.unusedVariables false
noncomputable section
abbrev XT := Int → Int → Int
noncomputable def XR (XF : XT) (l : List Value) (p : Int) : Value := .agg (rowV .u8 64 (fun j => XF (intAt l j) p)).toArray
/-- padded, told -/
noncomputable def FP (XF : XT) (f : FuncId) (args : List Value) : Option Value := if f == 30 then match args with
  | [.agg x, .int .u8 p] => if x.toList.length = 64 ∧ x.toList.all (isKind .u8) = true then some (XR XF x.toList p) else none
  | _ => none else none
theorem run35 (b : Nat → Int) (p : Int) : ((mk Try.prog Given.nothing 300).call 30 [.agg (rowV .u8 64 b).toArray, .int .u8 p] (St.start 0 .leaf [])).map (fun r => (r.1, r.2.obl)) =
    some (.agg (rowV .u8 64 (fun j => xorI .u8 (b j) p)).toArray, True) := by kernel_rfl
theorem FP_ok : GivenOk Try.prog (Given.calls (FP (xorI .u8))) := GivenOk.calls fun f args v h => by
  unfold FP at h
  split at h
  · rename_i hf
    split at h
    · rename_i x p
      split at h
      · rename_i hc
        simp only [Option.some.injEq] at h
        subst h
        have hf' : f = 30 := by simpa using hf
        subst hf'
        obtain ⟨h3, h4⟩ := hc
        have e2 : x = (rowV .u8 64 (intAt x.toList)).toArray := by rw [rowV_of h3 h4]
        refine ⟨?_, rfl, fun W => ?_⟩
        · rw [e2]; rfl
        · have := ranF sw.pg (GivenOk.nothing _) (run35 (intAt x.toList) p) trivial rfl rfl W
          rw [← e2] at this
          exact this
      · cases h
    · cases h
  · cases h
/-- cells as numbers -/
def iL (r : List Value) : List Int := r.map fun v => match v with | .int _ x => x | _ => 0
theorem iL_get {k : IntKind} {r : List Value} (h : r.all (isKind k) = true) {x : Nat} {a : Int} (hx : (iL r)[x]? = some a) : r[x]? = some (.int k a) := by
  unfold iL at hx
  rw [List.getElem?_map, Option.map_eq_some_iff] at hx
  obtain ⟨v, hv, e⟩ := hx
  have := List.all_eq_true.1 h v (List.mem_of_getElem? hv)
  rw [hv]
  cases v <;> simp [isKind] at this
  subst this
  simp only at e
  rw [e]
theorem iL_win {k : IntKind} {r : List Value} {o n : Nat} (h : ((r.drop o).take n).all (isKind k) = true) : ∀ x a, (iL ((r.drop o).take n))[x]? = some a → r[o + x]? = some (.int k a) := fun x a hx => by
  have := iL_get h hx
  rw [List.getElem?_take] at this
  split at this
  · rw [List.getElem?_drop] at this; exact this
  · cases this
end
end hd
end Go.Proofs.Ytgljibcokcgfbaa
namespace Go.Proofs.Ytgljibcokcgfbaa
open Go.ChangeShapes Go.WideShapes Go.ChangeAt Go.RowKit Go.Cln
namespace hd
open hc hx hy hz tb tc td ha
set_option linter.unusedVariables false
noncomputable section
/-- Write and the document's Sum of cells that are written out, told -/
def FL (A : List Int → HS → HS) (D : List Int → sw.N5) (f : FuncId) (args : List Value) (s : St) : Option Inst := if f == 31 then match args with
  | [.pointer (some ⟨p, 0, none⟩), .slice (some ⟨b, o, g⟩) n c] => match s.heap.get p with
    | some (.cells (.lit l) _) => match s.heap.get b with
      | some (.cells (.lit r) _) => if okH l = true ∧ gOk g = true ∧ ((r.drop o).take n).all (isKind .u8) = true then
          some ⟨[(b, o), (p, 0)], 1, [some (Ob.cells (.ints .u8 (iL ((r.drop o).take n))) 5), some (.cells (.lit l) 77)], [.pointer (some ⟨1, 0, none⟩), .slice (some ⟨0, 0, g⟩) n c], .int .i64 0,
            some (Ob.cells (.ints .u8 (iL ((r.drop o).take n))) 5) :: some (objH (A (iL ((r.drop o).take n)) (hOf l)) (IntKind.i64.wrap (intAt l 70 + (n : Int)))) :: List.replicate 6 none, A = AB ∧ 0 ≤ intAt l 64 ∧ intAt l 64 < 64 ∧ n = (iL ((r.drop o).take n)).length ∧ n ≤ c⟩
        else none
      | _ => none
    | _ => none
  | _ => none else if f == 23 then match args with
  | [.slice (some ⟨b, o, g⟩) n c] => match s.heap.get b with
    | some (.cells (.lit r) _) => if gOk g = true ∧ ((r.drop o).take n).all (isKind .u8) = true then some ⟨[(b, o)], 1, hB (iL ((r.drop o).take n)), [.slice (some ⟨0, 0, g⟩) n c], outV (D (iL ((r.drop o).take n))), out12 (iL ((r.drop o).take n)), D = shaN ∧ n = (iL ((r.drop o).take n)).length ∧ 0 < n ∧ n ≤ 1000000000⟩ else none
    | _ => none
  | _ => none else none
theorem FL_ok (A : List Int → HS → HS) (D : List Int → sw.N5) (f : FuncId) (args : List Value) (s : St) (i : Inst) (h : FL A D f args s = some i) : Fits s i args ∧ (i.ask → CallOk Try.prog f i.args i.s0 i.val i.s1) := by
  unfold FL at h
  split at h
  · rename_i hf
    have hf' : f = 31 := by simpa using hf
    subst hf'
    split at h
    · rename_i p b o g n c
      split at h
      · rename_i l tp hp
        split at h
        · rename_i r tb hb
          split at h
          · rename_i hc
            obtain ⟨hok, hg, hr⟩ := hc
            cases h
            have hl := okH_eq hok
            refine ⟨⟨?_, fun j pp ob h1 h2 => ?_⟩, fun ha => ?_⟩
            · have e : [Value.pointer (some ⟨p, 0, none⟩), .slice (some ⟨b, o, g⟩) n c] = [.pointer (some ⟨p, 0, none⟩), .slice (some ⟨b, addO o 0, g⟩) n c] := by rw [addO_eq]; rfl
              rcases gOk_eq hg with rfl | rfl <;> exact e
            · rcases j with _ | _ | j
              · simp only [List.getElem?_cons_zero, Option.some.injEq] at h1
                subst h1
                simp only [List.getElem?_cons_zero, Option.some.injEq] at h2
                subst h2
                exact ⟨_, hb, fit_intsL (iL_win hr)⟩
              · simp only [Nat.zero_add, List.getElem?_cons_succ, List.getElem?_cons_zero, Option.some.injEq] at h1
                subst h1
                simp only [Nat.zero_add, List.getElem?_cons_succ, List.getElem?_cons_zero, Option.some.injEq] at h2
                subst h2
                exact ⟨_, hp, fit_flat (fun x v hx => by rw [Nat.zero_add]; exact hx) (by rw [hl]; exact cH_flat _ _)⟩
              · simp at h1
            · obtain ⟨rfl, q1, q2, q3, q4⟩ := ha
              have := wr (iL ((r.drop o).take n)) n c g (gOk_eq hg) (hOf l) (intAt l 70) q1 q2 q3 q4
              unfold objH at this
              rw [← hl] at this
              exact this
          · cases h
        · cases h
      · cases h
    · cases h
  · split at h
    · rename_i hf
      have hf' : f = 23 := by simpa using hf
      subst hf'
      split at h
      · rename_i b o g n c
        split at h
        · rename_i r tb hb
          split at h
          · rename_i hgr
            obtain ⟨hg, hr⟩ := hgr
            cases h
            refine ⟨⟨?_, fun j pp ob h1 h2 => ?_⟩, fun ha => ?_⟩
            · have e : [Value.slice (some ⟨b, o, g⟩) n c] = [Value.slice (some ⟨b, addO o 0, g⟩) n c] := by rw [addO_eq]; rfl
              rcases gOk_eq hg with rfl | rfl <;> exact e
            · rcases j with _ | j
              · simp only [List.getElem?_cons_zero, Option.some.injEq] at h1
                subst h1
                simp only [hB, List.getElem?_cons_zero, Option.some.injEq] at h2
                subst h2
                exact ⟨_, hb, fit_intsL (iL_win hr)⟩
              · simp at h1
            · obtain ⟨rfl, q1, q2, q3⟩ := ha
              rcases gOk_eq hg with rfl | rfl
              · exact sumR _ n c q1 q2 q3
              · exact CallOk.grow [] [] (fun c _ => sumR _ n c q1 q2 q3) c
          · cases h
        · cases h
      · cases h
    · cases h
end
end hd
end Go.Proofs.Ytgljibcokcgfbaa
namespace Go.Proofs.Ytgljibcokcgfbaa
open Go.ChangeShapes Go.WideShapes Go.ChangeAt Go.RowKit Go.Cln
namespace hd
open hc hx hy hz tb tc td ha
set_option linter.unusedVariables false
noncomputable section
abbrev KT' := List Int → List Int
abbrev DT := List Int → sw.N5
abbrev AT := List Int → HS → HS
abbrev ET := HS → Nat → sw.N5
def oM (L : List Int) : Option Ob := some (Ob.cells (.ints .u8 L) 5)
def xl (B : List Int) (p : Int) : List Int := (List.range 64).map fun j => xorI .u8 (ch B j) p
def Kw (K : List Int) (n : Nat) : List Int := (K.drop 0).take n
def IN (KF : KT') (W : List Int) (M : List Int) (m : Nat) : List Int := List.take (64 + m) (xl (KF W) 54 ++ List.take m M)
def tgD (KF : KT') (D : DT) (W : List Int) (X : List Int) : sw.N5 := D (xl (KF W) 92 ++ ot1 (D X))
def b11 (KF : KT') (W : List Int) (n : Nat) : Prop := KF = kb ∧ n = W.length ∧ 0 < n ∧ n ≤ 1048576
def b22 (D : DT) (X : List Int) (n : Nat) : Prop := D = shaN ∧ n = X.length ∧ 0 < n ∧ n ≤ 1000000000
def w36 (A : AT) (l : List Value) (W : List Int) (n c : Nat) : Prop := A = AB ∧ 0 ≤ intAt l 64 ∧ intAt l 64 < 64 ∧ n = W.length ∧ n ≤ c
def g36 (A : AT) (l : List Value) (W : List Int) (n : Nat) : List Value := cH (A W (hOf l)) (IntKind.i64.wrap (intAt l 70 + (n : Int)))
def s28 (E : ET) (l : List Value) : Prop := E = DS ∧ 0 ≤ intAt l 70 ∧ intAt l 70 ≤ 1152921504606846976 ∧ intAt l 64 = (((intAt l 70).toNat % 64 : Nat) : Int)
def v28 (E : ET) (l : List Value) : sw.N5 := E (hOf l) (intAt l 70).toNat
def q1 (KF : KT') (A : AT) (W : List Int) : List Value := g36 A l0 (xl (KF W) 54) 64
def q2 (KF : KT') (A : AT) (W X : List Int) (m : Nat) : List Value := g36 A (q1 KF A W) X m
def q3 (KF : KT') (A : AT) (W : List Int) : List Value := g36 A l0 (xl (KF W) 92) 64
def q4 (KF : KT') (A : AT) (W Y : List Int) : List Value := g36 A (q3 KF A W) Y 20
def x12 (A : AT) (E : ET) (KF : KT') (W : List Int) (l : List Value) : Prop := (((True ∧ s28 E l) ∧ w36 A l0 (xl (KF W) 92) 64 64) ∧ w36 A (q3 KF A W) (ot1 (v28 E l)) 20 20) ∧ s28 E (q4 KF A W (ot1 (v28 E l)))
def y12 (A : AT) (E : ET) (KF : KT') (W : List Int) (l : List Value) : Value := .tuple #[outV (v28 E (q4 KF A W (ot1 (v28 E l)))), .int .i64 0]
/-- a hash that has taken these bytes -/
def Hs (l : List Value) (M : List Int) : Prop := SemH (hOf l) M ∧ intAt l 70 = ((M.length : Nat) : Int) ∧ intAt l 64 = ((M.length % 64 : Nat) : Int) ∧ M.length ≤ 1000000 ∧ Byt M
theorem Hs.zero : Hs l0 [] := ⟨SemH.zero, rfl, rfl, by decide, fun x hx => by cases hx⟩
theorem Hs.add {l : List Value} {M X : List Int} {n : Nat} (h : Hs l M) (hX : Byt X) (hn : n = X.length) (hb : M.length + n ≤ 1000000) : Hs (g36 AB l X n) (M ++ X) := by
  obtain ⟨k1, k2, k3, k4, k5⟩ := h
  have s1 := k1.AB k5 hX
  refine ⟨s1.cells _, ?_, ?_, by rw [List.length_append]; omega, byt_app k5 hX⟩
  · show IntKind.i64.wrap (intAt l 70 + (n : Int)) = _
    rw [k2, IntKind.wrap_i64, List.length_append]; omega
  · show (AB X (hOf l)).rn = _
    exact s1.rn
theorem Hs.w {l : List Value} {M X : List Int} {n c : Nat} (h : Hs l M) (hn : n = X.length) (hc : n ≤ c) : w36 AB l X n c := by
  obtain ⟨k1, k2, k3, k4, k5⟩ := h
  exact ⟨rfl, by rw [k3]; omega, by rw [k3]; omega, hn, hc⟩
theorem Hs.s {l : List Value} {M : List Int} (h : Hs l M) : s28 DS l := by
  obtain ⟨k1, k2, k3, k4, k5⟩ := h
  exact ⟨rfl, by rw [k2]; omega, by rw [k2]; omega, by rw [k3, k2, Int.toNat_natCast]⟩
theorem Hs.v {l : List Value} {M : List Int} (h : Hs l M) : v28 DS l = shaN M := by
  obtain ⟨k1, k2, k3, k4, k5⟩ := h
  unfold v28
  rw [k2, Int.toNat_natCast]
  exact k1.DS k5
theorem xl_len (B : List Int) (p : Int) : (xl B p).length = 64 := by unfold xl; simp
theorem xl_byt (B : List Int) (p : Int) : Byt (xl B p) := fun x hx => by
  unfold xl at hx
  obtain ⟨j, _, rfl⟩ := List.mem_map.1 hx
  unfold xorI
  rw [IntKind.wrap_u8]; omega
theorem ot_len (X : sw.N5) : (ot1 X).length = 20 := rfl
theorem ot_byt (X : sw.N5) : Byt (ot1 X) := fun x hx => by
  have key : ∀ (l : List Int), (∀ y ∈ l, ∃ z, y = IntKind.u8.wrap z) → Byt l := fun l h y hy => by
    obtain ⟨z, rfl⟩ := h y hy
    rw [IntKind.wrap_u8]; omega
  revert x hx
  refine key _ fun y hy => ?_
  unfold ot1 be4 at hy
  simp only [List.mem_append, List.mem_cons, List.not_mem_nil, or_false] at hy
  rcases hy with h | h | h | h | h <;> (rcases h with rfl | rfl | rfl | rfl <;> exact ⟨_, rfl⟩)
theorem hs1 (W : List Int) : Hs (q1 kb AB W) (xl (kb W) 54) := by
  have := Hs.zero.add (X := xl (kb W) 54) (n := 64) (xl_byt _ _) (xl_len _ _).symm (by decide)
  exact this
theorem hs2 {W X : List Int} {m : Nat} (hX : Byt X) (hm : m = X.length) (h : m ≤ 10000) : Hs (q2 kb AB W X m) (xl (kb W) 54 ++ X) :=
  (hs1 W).add hX hm (by rw [xl_len]; omega)
theorem hs3 (W : List Int) : Hs (q3 kb AB W) (xl (kb W) 92) := by
  have := Hs.zero.add (X := xl (kb W) 92) (n := 64) (xl_byt _ _) (xl_len _ _).symm (by decide)
  exact this
theorem hs4 (W : List Int) (Y : sw.N5) : Hs (q4 kb AB W (ot1 Y)) (xl (kb W) 92 ++ ot1 Y) :=
  (hs3 W).add (ot_byt Y) rfl (by rw [xl_len]; decide)
/-- the second half of a tag: what is asked, what it answers -/
theorem rest_ok {W M : List Int} {l : List Value} {p : Prop} (h : Hs l M) (hp : p) :
    (((p ∧ s28 DS l) ∧ w36 AB l0 (xl (kb W) 92) 64 64) ∧ w36 AB (q3 kb AB W) (ot1 (v28 DS l)) 20 20) ∧ s28 DS (q4 kb AB W (ot1 (v28 DS l))) :=
  ⟨⟨⟨⟨hp, h.s⟩, Hs.zero.w (xl_len _ _).symm (Nat.le_refl _)⟩, (hs3 W).w rfl (Nat.le_refl _)⟩, (hs4 W _).s⟩
theorem tag_eq {W M : List Int} {l : List Value} (h : Hs l M) : y12 AB DS kb W l = .tuple #[outV (tgD kb shaN W M), .int .i64 0] := by
  unfold y12 tgD
  rw [h.v, (hs4 W _).v]
/-- a tag, as the document says it -/
def tgN (K M : List Int) : sw.N5 := tgD kb shaN K (xl (kb K) 54 ++ M)
def tgV (K M : List Int) : Value := .tuple #[outV (tgN K M), .int .i64 0]
theorem Kw_eq {L : List Int} {n : Nat} (h : n = L.length) : Kw L n = L := by unfold Kw; rw [List.drop_zero, h, List.take_length]
end
end hd
end Go.Proofs.Ytgljibcokcgfbaa
namespace Go.Proofs.Ytgljibcokcgfbaa
open Go.ChangeShapes Go.WideShapes Go.ChangeAt Go.RowKit Go.Cln
namespace na
open hc hx hy hz tb
set_option linter.unusedVariables false
noncomputable section
def nn (k : Nat) : List (Option Ob) := List.replicate k none
def w0 (sz : Int) : Int := IntKind.i64.wrap (sz + ((0 : Nat) : Int))
noncomputable def r22a (F : Nat → Nat → Cells) (h : HS) (sz : Int) (b o c : Nat) : Option (Value × St) := (mk Try.prog Given.nothing 300).call 31 [.pointer (some ⟨1, 0, none⟩), .slice (some ⟨b, o, some 1000⟩) 0 c] (smSt 1 [some (.fam F), some (objH h sz)] [])
theorem run22a (F : Nat → Nat → Cells) (h : HS) (sz : Int) (b o c : Nat) : (r22a F h sz b o c).map (fun r => (r.1, r.2.obl, r.2.next, keepL (true :: true :: List.replicate 6 false) r.2.heap.get 0)) =
    some (.int .i64 0, True, (some (.fam F) :: some (objH h (w0 sz)) :: nn 6).length, some (.fam F) :: some (objH h (w0 sz)) :: nn 6) := by kernel_rfl
theorem AB_nil (h : HS) : AB [] h = h := by
  unfold AB
  rw [show ([] : List Int).length = 0 from rfl, ab_zero]
theorem wra (F : Nat → Nat → Cells) (D : List Int) (b o n c : Nat) (h : HS) (sz : Int) (hF : F 1000 b = .ints .u8 D) (h0 : 0 ≤ h.rn) (h1 : h.rn < 64) (h2 : n = ((D.drop o).take n).length) (h3 : n ≤ c) :
    CallOk Try.prog 31 [.pointer (some ⟨1, 0, none⟩), .slice (some ⟨b, o, some 1000⟩) n c] (smSt 1 [some (.fam F), some (objH h sz)] []) (.int .i64 0)
      (smSt 1 (some (.fam F) :: some (objH (AB ((D.drop o).take n) h) (IntKind.i64.wrap (sz + (n : Int)))) :: nn 6) []) := by
  refine CallOk.abs (j := 1) (t := 5) (k := .u8) (L := (D.drop o).take n) (Nat.le_refl _) (by simp) (by simp) (by simp [nn]) rfl rfl (fun x y hy => ?_) h2 rfl ?_ ?_ rfl ?_ fun hn => ?_
  · rw [hF]
    rw [List.getElem?_take] at hy
    split at hy
    · rw [List.getElem?_drop] at hy
      simp only [Cells.get, hy]; rfl
    · cases hy
  · simp only [List.all_cons, List.all_nil, Bool.and_true]
    exact cH_flat h sz
  · have := cH_flat (AB ((D.drop o).take n) h) (IntKind.i64.wrap (sz + (n : Int)))
    simp only [List.all_cons]
    rw [show restOk (some (objH (AB ((D.drop o).take n) h) (IntKind.i64.wrap (sz + (n : Int))))) = true from this]; rfl
  · exact wr _ n c none (.inl rfl) h sz h0 h1 h2 h3
  · subst hn
    have := frame_by sw.pg (GivenOk.nothing _) _ (run22a F h sz b o c) trivial (by rfl) rfl
    rw [List.take_zero, AB_nil]
    exact this
/-- Write of a slice by its place, told -/
def F22a (A : List Int → HS → HS) (f : FuncId) (args : List Value) (s : St) : Option Inst := if f == 31 then match args with
  | [.pointer (some ⟨p, 0, none⟩), .slice (some ⟨b, o, some 1000⟩) n c] => match s.heap.get p with
    | some (.cells (.lit l) _) => match s.heap.get 0 with
      | some (.fam F) => match F 1000 b with
        | .ints .u8 D => if okH l = true then
          some ⟨[(0, 0), (p, 0)], 1, [some (.fam F), some (.cells (.lit l) 77)], [.pointer (some ⟨1, 0, none⟩), .slice (some ⟨b, o, some 1000⟩) n c], .int .i64 0,
            some (.fam F) :: some (objH (A ((D.drop o).take n) (hOf l)) (IntKind.i64.wrap (intAt l 70 + (n : Int)))) :: nn 6, A = AB ∧ 0 ≤ intAt l 64 ∧ intAt l 64 < 64 ∧ n = ((D.drop o).take n).length ∧ n ≤ c⟩
          else none
        | _ => none
      | _ => none
    | _ => none
  | _ => none else none
theorem F22a_ok (A : List Int → HS → HS) (f : FuncId) (args : List Value) (s : St) (i : Inst) (h : F22a A f args s = some i) : Fits s i args ∧ (i.ask → CallOk Try.prog f i.args i.s0 i.val i.s1) := by
  unfold F22a at h
  split at h
  · rename_i hf
    have hf' : f = 31 := by simpa using hf
    subst hf'
    split at h
    · rename_i p b o n c
      split at h
      · rename_i l tp hp
        split at h
        · rename_i F hF
          split at h
          · rename_i D hD
            split at h
            · rename_i hok
              cases h
              have hl := okH_eq hok
              refine ⟨⟨rfl, fun j pp ob h1 h2 => ?_⟩, fun ha => ?_⟩
              · rcases j with _ | _ | j
                · simp only [List.getElem?_cons_zero, Option.some.injEq] at h1
                  subst h1
                  simp only [List.getElem?_cons_zero, Option.some.injEq] at h2
                  subst h2
                  exact ⟨_, hF, fun _ _ _ _ hx => hx⟩
                · simp only [Nat.zero_add, List.getElem?_cons_succ, List.getElem?_cons_zero, Option.some.injEq] at h1
                  subst h1
                  simp only [Nat.zero_add, List.getElem?_cons_succ, List.getElem?_cons_zero, Option.some.injEq] at h2
                  subst h2
                  exact ⟨_, hp, fit_flat (fun x v hx => by rw [Nat.zero_add]; exact hx) (by rw [hl]; exact cH_flat _ _)⟩
                · simp at h1
              · obtain ⟨rfl, q1, q2, q3, q4⟩ := ha
                have := wra F D b o n c (hOf l) (intAt l 70) hD q1 q2 q3 q4
                unfold objH at this
                rw [← hl] at this
                exact this
            · cases h
          · cases h
        · cases h
      · cases h
    · cases h
  · cases h
end
end na
end Go.Proofs.Ytgljibcokcgfbaa
namespace Go.Proofs.Ytgljibcokcgfbaa
open Go.ChangeShapes Go.WideShapes Go.ChangeAt Go.RowKit Go.Cln
namespace ka
open hc hx hy hz tb tc td ha hd
set_option linter.unusedVariables false
noncomputable section
def wa (D : List Int) (o n : Nat) : List Int := (D.drop o).take n
theorem blk9 (F : Nat → Nat → Cells) (D : List Int) (b o n c : Nat) (hF : F 1000 b = .ints .u8 D) (hB : Byt (wa D o n)) (h2 : n = (wa D o n).length) (h3 : n ≤ c) (h4 : n ≤ 1048576) :
    CallOk Try.prog 16 [.slice (some ⟨b, o, some 1000⟩) n c] (smSt 1 [some (.fam F)] []) (.tuple #[bV (kb (wa D o n)), .int .i64 0]) (smSt 1 (some (.fam F) :: ha.nn 33) []) := by
  by_cases h0 : n = 0
  · subst h0
    have e : wa D o 0 = [] := List.take_zero
    rw [e, kb_nil]
    have := frame_by sw.pg (GivenOk.nothing _) _ (run9a F b o c) trivial (by rfl) rfl
    exact this.pad 29 (by simp [ha.nn]) (by simp) (by simp [ha.nn])
  · refine CallOk.abs (j := 0) (t := 5) (k := .u8) (L := wa D o n) (Nat.le_refl _) (by simp) (by simp) (by simp [ha.nn]) rfl rfl (fun x y hy => ?_) h2 rfl rfl ?_ (by rfl) ?_ fun hn => absurd hn h0
    · rw [hF]
      unfold wa at hy
      rw [List.getElem?_take] at hy
      split at hy
      · rw [List.getElem?_drop] at hy
        simp only [Cells.get, hy]; rfl
      · cases hy
    · rfl
    · exact block9 (wa D o n) n c hB h2 (by omega) h3 h4
theorem blk11 (F : Nat → Nat → Cells) (D : List Int) (b o n c : Nat) (hF : F 1000 b = .ints .u8 D) (h2 : n = (wa D o n).length) (h4 : n ≤ 1048576) :
    CallOk Try.prog 22 [.slice (some ⟨b, o, some 1000⟩) n c] (smSt 1 [some (.fam F)] []) (bV (kb (wa D o n))) (smSt 1 (some (.fam F) :: ha.nn 28) []) := by
  by_cases h0 : n = 0
  · subst h0
    have e : wa D o 0 = [] := List.take_zero
    rw [e, kb_nil]
    have := frame_by sw.pg (GivenOk.nothing _) _ (run11a F b o c) trivial (by rfl) rfl
    exact this.pad 26 (by simp [ha.nn]) (by simp) (by simp [ha.nn])
  · refine CallOk.abs (j := 0) (t := 5) (k := .u8) (L := wa D o n) (Nat.le_refl _) (by simp) (by simp) (by simp [ha.nn]) rfl rfl (fun x y hy => ?_) h2 rfl rfl ?_ (by rfl) ?_ fun hn => absurd hn h0
    · rw [hF]
      unfold wa at hy
      rw [List.getElem?_take] at hy
      split at hy
      · rw [List.getElem?_drop] at hy
        simp only [Cells.get, hy]; rfl
      · cases hy
    · rfl
    · exact block11 (wa D o n) n c h2 (by omega) h4
/-- both Blocks of a key by its place, told -/
def FKa (KF : KT') (f : FuncId) (args : List Value) (s : St) : Option Inst := if f == 16 then match args with
  | [.slice (some ⟨b, o, some 1000⟩) n c] => match s.heap.get 0 with
    | some (.fam F) => match F 1000 b with
      | .ints .u8 D => some ⟨[(0, 0)], 1, [some (.fam F)], [.slice (some ⟨b, o, some 1000⟩) n c], .tuple #[bV (KF (wa D o n)), .int .i64 0], some (.fam F) :: ha.nn 33, KF = kb ∧ Byt (wa D o n) ∧ n = (wa D o n).length ∧ n ≤ c ∧ n ≤ 1048576⟩
      | _ => none
    | _ => none
  | _ => none else if f == 22 then match args with
  | [.slice (some ⟨b, o, some 1000⟩) n c] => match s.heap.get 0 with
    | some (.fam F) => match F 1000 b with
      | .ints .u8 D => some ⟨[(0, 0)], 1, [some (.fam F)], [.slice (some ⟨b, o, some 1000⟩) n c], bV (KF (wa D o n)), some (.fam F) :: ha.nn 28, KF = kb ∧ n = (wa D o n).length ∧ n ≤ 1048576⟩
      | _ => none
    | _ => none
  | _ => none else none
theorem FKa_ok (KF : KT') (f : FuncId) (args : List Value) (s : St) (i : Inst) (h : FKa KF f args s = some i) : Fits s i args ∧ (i.ask → CallOk Try.prog f i.args i.s0 i.val i.s1) := by
  unfold FKa at h
  split at h
  · rename_i hf
    have hf' : f = 16 := by simpa using hf
    subst hf'
    split at h
    · rename_i b o n c
      split at h
      · rename_i F hF
        split at h
        · rename_i D hD
          cases h
          refine ⟨⟨rfl, fun j pp ob h1 h2 => ?_⟩, fun ha => ?_⟩
          · rcases j with _ | j
            · simp only [List.getElem?_cons_zero, Option.some.injEq] at h1
              subst h1
              simp only [List.getElem?_cons_zero, Option.some.injEq] at h2
              subst h2
              exact ⟨_, hF, fun _ _ _ _ hx => hx⟩
            · simp at h1
          · obtain ⟨rfl, q0, q1, q2, q3⟩ := ha
            exact blk9 F D b o n c hD q0 q1 q2 q3
        · cases h
      · cases h
    · cases h
  · split at h
    · rename_i hf
      have hf' : f = 22 := by simpa using hf
      subst hf'
      split at h
      · rename_i b o n c
        split at h
        · rename_i F hF
          split at h
          · rename_i D hD
            cases h
            refine ⟨⟨rfl, fun j pp ob h1 h2 => ?_⟩, fun ha => ?_⟩
            · rcases j with _ | j
              · simp only [List.getElem?_cons_zero, Option.some.injEq] at h1
                subst h1
                simp only [List.getElem?_cons_zero, Option.some.injEq] at h2
                subst h2
                exact ⟨_, hF, fun _ _ _ _ hx => hx⟩
              · simp at h1
            · obtain ⟨rfl, q1, q2⟩ := ha
              exact blk11 F D b o n c hD q1 q2
          · cases h
        · cases h
      · cases h
    · cases h
/-- all that is told in a tag -/
def FTa (KF : KT') (D : DT) (A : AT) (E : ET) (f : FuncId) (args : List Value) (s : St) : Option Inst := match na.F22a A f args s with
  | some i => some i
  | none => match FKa KF f args s with
    | some i => some i
    | none => match hz.FH A E f args s with
      | some i => some i
      | none => match tc.FD D f args s with
        | some i => some i
        | none => FL A D f args s
theorem FTa_ok (KF : KT') (D : DT) (A : AT) (E : ET) (f : FuncId) (args : List Value) (s : St) (i : Inst) (h : FTa KF D A E f args s = some i) : Fits s i args ∧ (i.ask → CallOk Try.prog f i.args i.s0 i.val i.s1) := by
  unfold FTa at h
  split at h
  · rename_i j h1
    cases h; exact na.F22a_ok A f args s _ h1
  · split at h
    · rename_i j h1
      cases h; exact FKa_ok KF f args s _ h1
    · split at h
      · rename_i j h1
        cases h; exact hz.FH_ok A E f args s _ h1
      · split at h
        · rename_i j h1
          cases h; exact tc.FD_ok D f args s _ h1
        · exact FL_ok A D f args s _ h
def KTa (KF : KT') (XF : XT) (D : DT) (A : AT) (E : ET) : Given := { Given.frames (Given.calls (FP XF)) (FTa KF D A E) with fits := true }
theorem KTa_ok (KF : KT') (D : DT) (A : AT) (E : ET) : GivenOk Try.prog (KTa KF (xorI .u8) D A E) := frames_fits (FP_ok.frames (FTa_ok KF D A E)) true
end
end ka
end Go.Proofs.Ytgljibcokcgfbaa
namespace Go.Proofs.Ytgljibcokcgfbaa
open Go.ChangeShapes Go.WideShapes Go.ChangeAt Go.RowKit Go.Cln
namespace hq
set_option linter.unusedVariables false
noncomputable section
abbrev TTf := List Value → List Value → sw.N5
abbrev TGf := List Int → List Int → sw.N5
/-- the key's place, length, room -/
structure KY where
  Q : Nat
  n : Nat
  c : Nat
def kv (y : KY) : Value := .slice (some ⟨y.Q, 0, some 1000⟩) y.n y.c
def WK (x : Acts) (y : KY) : List Int := ka.wa (x.D y.Q) 0 y.n
def oM (L : List Int) : Option Ob := some (Ob.cells (.ints .u8 L) 5)
/-- Block of a copy of a key, however long -/
theorem run16z (c : Nat) : ((mk Try.prog Given.nothing 300).call 16 [.slice (some ⟨0, 0, none⟩) 0 c] (smSt 1 [oM []] [])).map (fun r => (r.1, r.2.obl, r.2.next, keepL (true :: List.replicate 4 false) r.2.heap.get 0)) = some (.tuple #[ha.bV ha.Z64, .int .i64 0], True, (ha.o9 [] 4).length, ha.o9 [] 4) := by kernel_rfl
theorem blockL (L : List Int) (n c : Nat) (hL : hx.Byt L) (hn : n = L.length) (hc : n ≤ c) (h : n ≤ 1048576) :
    CallOk Try.prog 16 [.slice (some ⟨0, 0, none⟩) n c] (smSt 1 (hz.hB L) []) (.tuple #[ha.bV (ha.kb L), .int .i64 0]) (smSt 1 (ha.o9 L 33) []) := by
  by_cases h0 : n = 0
  · subst h0
    obtain rfl : L = [] := List.eq_nil_of_length_eq_zero hn.symm
    rw [ha.kb_nil]
    have := frame_by sw.pg (GivenOk.nothing _) _ (run16z c) trivial (by rfl) rfl
    exact this.pad 29 (by simp [ha.o9]) (by simp [oM]) (by simp [ha.o9, oM])
  · exact ha.block9 L n c hL hn (by omega) hc h
theorem blockL1 (L : List Int) (n c : Nat) (hL : hx.Byt L) (hn : n = L.length) (hc : n ≤ c) (h : n ≤ 1048576) :
    CallOk Try.prog 16 [.slice (some ⟨0, 0, none⟩) n c] (smSt 1 (hz.hB L) []) (.tuple #[ha.bV (ha.kb L), .int .i64 0]) (smSt 1 (ha.o9 L 34) []) :=
  (blockL L n c hL hn hc h).pad 1 (by simp [ha.o9]) (by simp [hz.hB]) (by simp [ha.o9, hz.hB])
/-- a copy that grew; a copy that did not: one name more, so that both ways use up as many -/
def F16 (KF : hd.KT') (f : FuncId) (args : List Value) (s : Go.Cln.St) : Option Inst := if f == 16 then match args with
  | [.slice (some ⟨b, o, none⟩) n c] => match s.heap.get b with
    | some (.cells (.ints .u8 l) _) => some ⟨[(b, o)], 1, hz.hB ((l.drop o).take n), [.slice (some ⟨0, 0, none⟩) n c], .tuple #[ha.bV (KF ((l.drop o).take n)), .int .i64 0], ha.o9 ((l.drop o).take n) 34, KF = ha.kb ∧ hx.Byt ((l.drop o).take n) ∧ n = ((l.drop o).take n).length ∧ n ≤ 1000 ∧ n = 0⟩
    | _ => none
  | [.slice (some ⟨b, o, some 1⟩) n c] => match s.heap.get b with
    | some (.cells (.ints .u8 l) _) => some ⟨[(b, o)], 1, hz.hB ((l.drop o).take n), [.slice (some ⟨0, 0, some 1⟩) n c], .tuple #[ha.bV (KF ((l.drop o).take n)), .int .i64 0], ha.o9 ((l.drop o).take n) 33, KF = ha.kb ∧ hx.Byt ((l.drop o).take n) ∧ n = ((l.drop o).take n).length ∧ n ≤ 1000⟩
    | _ => none
  | _ => none else none
theorem F16_ok (KF : hd.KT') (f : FuncId) (args : List Value) (s : Go.Cln.St) (i : Inst) (h : F16 KF f args s = some i) : Fits s i args ∧ (i.ask → CallOk Try.prog f i.args i.s0 i.val i.s1) := by
  unfold F16 at h
  split at h
  · rename_i hf
    have hf' : f = 16 := by simpa using hf
    subst hf'
    split at h
    · rename_i b o n c
      split at h
      · rename_i l ty hb
        cases h
        refine ⟨tb.fit1 hb rfl rfl rfl rfl, fun ha' => ?_⟩
        obtain ⟨rfl, q1, q2, q3, q4⟩ := ha'
        exact blockL1 _ n c q1 q2 (by omega) (by omega)
      · cases h
    · rename_i b o n c
      split at h
      · rename_i l ty hb
        cases h
        refine ⟨tb.fit1 hb rfl rfl rfl rfl, fun ha' => ?_⟩
        obtain ⟨rfl, q1, q2, q3⟩ := ha'
        exact CallOk.grow [] [] (fun c hc => blockL _ n c q1 q2 hc (by omega)) c
      · cases h
    · cases h
  · cases h
/-- works, told -/
def F6 (f : FuncId) (args : List Value) (s : Go.Cln.St) : Option Inst := if f == 6 then match args with
  | [] => some ⟨[], 0, [], [], .bool true, [], True⟩
  | _ => none else none
theorem works_ok : CallOk Try.prog 6 [] (smSt 0 [] []) (.bool true) (smSt 0 [] []) := CallOk.of_below ha.known rfl rfl _
theorem F6_ok (f : FuncId) (args : List Value) (s : Go.Cln.St) (i : Inst) (h : F6 f args s = some i) : Fits s i args ∧ (i.ask → CallOk Try.prog f i.args i.s0 i.val i.s1) := by
  unfold F6 at h
  split at h
  · rename_i hf
    have hf' : f = 6 := by simpa using hf
    subst hf'
    split at h
    · cases h
      exact ⟨⟨rfl, fun j p ob hp ho => by simp at hp⟩, fun _ => works_ok⟩
    · cases h
  · cases h
/-- a tag's own cells: where its hash is, the key's block -/
def mc (hb : Nat) (w : List Int) : List Value := .pointer (some ⟨hb, 0, none⟩) :: rowV .u8 64 (hx.ch w)
def call10 (A : hd.AT) (E : hd.ET) (h : hz.HS) (z : Int) (w : List Int) (o : List (Option Bool)) : Option (Value × Go.Cln.St) := (mk Try.prog (ka.KTa ha.kb (xorI .u8) hz.shaN A E) 300).call 10 [.pointer (some ⟨1, 0, none⟩)] (smSt 2 [some (.cells (.lit (hz.cH h z)) 77), some (.cells (.lit (mc 0 w)) 58)] o)
end
end hq
end Go.Proofs.Ytgljibcokcgfbaa
namespace Go.Proofs.Ytgljibcokcgfbaa
open Go.ChangeShapes Go.WideShapes Go.ChangeAt Go.RowKit Go.Cln
namespace hq
set_option linter.unusedVariables false
noncomputable section
open hd in
def q3w (A : hd.AT) (w : List Int) : List Value := hd.g36 A hz.l0 (hd.xl w 92) 64
def q4w (A : hd.AT) (w Y : List Int) : List Value := hd.g36 A (q3w A w) Y 20
def p10 (A : hd.AT) (E : hd.ET) (l : List Value) (w : List Int) : Prop := (((True ∧ hd.s28 E l) ∧ hd.w36 A hz.l0 (hd.xl w 92) 64 64) ∧ hd.w36 A (q3w A w) (hy.ot1 (hd.v28 E l)) 20 20) ∧ hd.s28 E (q4w A w (hy.ot1 (hd.v28 E l)))
def tagW (A : hd.AT) (E : hd.ET) (l : List Value) (w : List Int) : sw.N5 := hd.v28 E (q4w A w (hy.ot1 (hd.v28 E l)))
def h10 (l : List Value) (w : List Int) : List (Option Ob) := [some (.cells (.lit l) 77), some (.cells (.lit (mc 0 w)) 58)] ++ ha.nn 55
theorem run10 (A : hd.AT) (E : hd.ET) (h : hz.HS) (z : Int) (w : List Int) : (call10 A E h z w []).map (fun r => (r.1, r.2.obl, r.2.next, keepL ([true, true] ++ List.replicate 55 false) r.2.heap.get 0)) =
    some (.tuple #[hy.outV (tagW A E (hz.cH h z) w), .int .i64 0], p10 A E (hz.cH h z) w, (h10 (hz.cH h z) w).length, h10 (hz.cH h z) w) := by kernel_rfl
theorem hs3w (w : List Int) : hd.Hs (q3w hz.AB w) (hd.xl w 92) := by
  have := hd.Hs.zero.add (X := hd.xl w 92) (n := 64) (hd.xl_byt w 92) (hd.xl_len w 92).symm (by decide)
  exact this
theorem hs4w (w : List Int) (Y : sw.N5) : hd.Hs (q4w hz.AB w (hy.ot1 Y)) (hd.xl w 92 ++ hy.ot1 Y) :=
  (hs3w w).add (hd.ot_byt Y) (hd.ot_len Y).symm (by rw [hd.xl_len]; decide)
theorem p10_ok {l : List Value} {M : List Int} (h : hd.Hs l M) (w : List Int) : p10 hz.AB hz.DS l w :=
  ⟨⟨⟨⟨trivial, h.s⟩, hd.Hs.zero.w (hd.xl_len _ _).symm (Nat.le_refl _)⟩, (hs3w w).w (hd.ot_len _).symm (Nat.le_refl _)⟩, (hs4w w _).s⟩
theorem tagW_eq {l : List Value} {M : List Int} (h : hd.Hs l M) (w : List Int) : tagW hz.AB hz.DS l w = hz.shaN (hd.xl w 92 ++ hy.ot1 (hz.shaN M)) := by
  unfold tagW
  rw [h.v, (hs4w w _).v]
/-- the tag of what a hash has taken, by a block's cells -/
def TT0 (r l : List Value) : sw.N5 := tagW hz.AB hz.DS l (hd.iL r)
theorem iL_row {r : List Value} (h : r.all (isKind .u8) = true) (hl : r.length = 64) : rowV .u8 64 (hx.ch (hd.iL r)) = r := by
  conv => rhs; rw [← rowV_of hl h]
  refine hz.row_eq fun j hj => ?_
  unfold hx.ch hd.iL intAt
  rw [getL_eq, List.getD_eq_getElem?_getD, List.getD_eq_getElem?_getD, List.getElem?_map]
  rw [List.getElem?_eq_getElem (by omega)]
  rfl
def F10 (TT : TTf) (f : FuncId) (args : List Value) (s : Go.Cln.St) : Option Inst := if f == 10 then match args with
  | [.pointer (some ⟨p, 0, none⟩)] => match s.heap.get p with
    | some (.cells (.lit (.pointer (some ⟨hb, 0, none⟩) :: r)) _) => match s.heap.get hb with
      | some (.cells (.lit l) _) => if hz.okH l = true ∧ r.all (isKind .u8) = true ∧ r.length = 64 then
          some ⟨[(hb, 0), (p, 0)], 2, [some (.cells (.lit l) 77), some (.cells (.lit (.pointer (some ⟨0, 0, none⟩) :: r)) 58)], [.pointer (some ⟨1, 0, none⟩)], .tuple #[hy.outV (TT r l), .int .i64 0],
            [some (.cells (.lit l) 77), some (.cells (.lit (.pointer (some ⟨0, 0, none⟩) :: r)) 58)] ++ ha.nn 55, TT = TT0 ∧ ∃ M, hd.Hs l M⟩
        else none
      | _ => none
    | _ => none
  | _ => none else none
theorem F10_ok (TT : TTf) (f : FuncId) (args : List Value) (s : Go.Cln.St) (i : Inst) (h : F10 TT f args s = some i) : Fits s i args ∧ (i.ask → CallOk Try.prog f i.args i.s0 i.val i.s1) := by
  unfold F10 at h
  split at h
  · rename_i hf
    have hf' : f = 10 := by simpa using hf
    subst hf'
    split at h
    · rename_i p
      split at h
      · rename_i hb r ty hp
        split at h
        · rename_i l tl hl
          split at h
          · rename_i hc
            obtain ⟨c1, c2, c3⟩ := hc
            cases h
            refine ⟨⟨?_, fun j pp ob h1 h2 => ?_⟩, fun ha' => ?_⟩
            · show [Value.pointer (some ⟨p, 0, none⟩)] = [Value.pointer (some ⟨p, addO 0 0, none⟩)]
              rw [addO_eq]
            · rcases j with _ | _ | j
              · simp only [List.getElem?_cons_zero, Option.some.injEq] at h1
                subst h1
                simp only [List.getElem?_cons_zero, Option.some.injEq] at h2
                subst h2
                exact ⟨_, hl, fit_flat (fun x v hv => by rw [Nat.zero_add]; exact hv) (by rw [hz.okH_eq c1]; exact hz.cH_flat _ _)⟩
              · simp only [Nat.zero_add, List.getElem?_cons_succ, List.getElem?_cons_zero, Option.some.injEq] at h1
                subst h1
                simp only [Nat.zero_add, List.getElem?_cons_succ, List.getElem?_cons_zero, Option.some.injEq] at h2
                subst h2
                refine ⟨_, hp, fun x v hv => ?_⟩
                rw [Nat.zero_add]
                cases x with
                | zero =>
                  simp only [Cells.get, List.getElem?_cons_zero, Option.some.injEq] at hv
                  subst hv
                  refine ⟨_, rfl, ?_, rfl⟩
                  show Value.pointer (some ⟨hb, 0, none⟩) = Value.pointer (some ⟨hb, addO 0 0, none⟩)
                  rw [addO_eq]
                | succ x =>
                  simp only [Cells.get, List.getElem?_cons_succ] at hv
                  have hf : flat0 v = true := by
                    have := List.all_eq_true.1 c2 v (List.mem_of_getElem? hv)
                    unfold isKind at this
                    split at this
                    · rfl
                    · cases this
                  exact ⟨v, hv, (mv_flat0 _ _ hf).symm, okN_flat0 _ hf⟩
              · simp at h1
            · obtain ⟨rfl, M, hM⟩ := ha'
              have e := hz.okH_eq c1
              have er := iL_row c2 c3
              have hM' := hM
              rw [e] at hM'
              have := frame_by sw.pg (ka.KTa_ok ha.kb hz.shaN hz.AB hz.DS) ([true, true] ++ List.replicate 55 false) (run10 hz.AB hz.DS (hz.hOf l) (intAt l 70) (hd.iL r)) (p10_ok hM' _) (by rfl) rfl
              unfold h10 mc at this
              rw [er, ← e] at this
              exact this
          · cases h
        · cases h
      · cases h
    · cases h
  · cases h
end
end hq
end Go.Proofs.Ytgljibcokcgfbaa
namespace Go.Proofs.Ytgljibcokcgfbaa
open Go.ChangeShapes Go.WideShapes Go.ChangeAt Go.RowKit Go.Cln
namespace hq
set_option linter.unusedVariables false
noncomputable section
open hd
abbrev tgN := hd.tgN
def call11 (KF : KT') (D : DT) (A : AT) (E : ET) (x : Acts) (y : KY) (v : Value) (h : List (Option Ob)) (o : List (Option Bool)) : Option (Value × Go.Cln.St) := (mk Try.prog (ka.KTa KF (xorI .u8) D A E) 300).call 11 [kv y, v] (smSt (h.length + 1) (some (.fam x.F) :: h) o)
def o14 : List (Option Bool) := List.replicate 257 none ++ [some false]
def c11 (KF : KT') (x : Acts) (y : KY) : Prop := KF = ha.kb ∧ y.n = (WK x y).length ∧ y.n ≤ 1048576
def P11i (KF : KT') (D : DT) (x : Acts) (y : KY) (M : List Int) (m : Nat) : Prop := ((((True ∧ c11 KF x y) ∧ decide (64 + m ≤ 64) = false) ∧ (0 + m ≤ M.length ∧ 0 + 64 ≤ (xl (KF (WK x y)) 54).length ∧ (64 + m) * 1 ≤ mostBytes ∧ 64 + m ≤ mostBytes)) ∧ b22 D (IN KF (WK x y) M m) (64 + m)) ∧ b22 D (xl (KF (WK x y)) 92 ++ hy.ot1 (D (IN KF (WK x y) M m))) 84
def h11i (x : Acts) (M : List Int) : List (Option Ob) := [some (.fam x.F), oM M] ++ ha.nn 339
theorem N11i (KF : KT') (D : DT) (A : AT) (E : ET) (x : Acts) (y : KY) (M : List Int) (m c : Nat) : (call11 KF D A E x y (.slice (some ⟨1, 0, some 1⟩) m c) [oM M] o14).map (fun r => (r.1, r.2.obl, r.2.next, keepL ([true, true] ++ List.replicate 339 false) r.2.heap.get 0)) =
    some (hy.outV (tgD KF D (WK x y) (IN KF (WK x y) M m)), P11i KF D x y M m, (h11i x M).length, h11i x M) := by kernel_rfl
theorem ref11 (x : Acts) (y : KY) (M : List Int) (m c : Nat) (hn : y.n = (WK x y).length) (h1 : y.n ≤ 1000) (hm : m = M.length) (g0 : 0 < m) (g1 : m ≤ 9000) : CallOk Try.prog 11 [kv y, .slice (some ⟨1, 0, some 1⟩) m c] (smSt 2 [some (.fam x.F), oM M] []) (hy.outV (tgN (WK x y) M)) (smSt 2 (h11i x M) []) := by
  have eX : (IN ha.kb (WK x y) M m) = xl (ha.kb (WK x y)) 54 ++ M := by unfold IN; rw [hm, List.take_length]; exact List.take_of_length_le (by rw [List.length_append, xl_len]; omega)
  have hp : P11i ha.kb hz.shaN x y M m := by
    refine ⟨⟨⟨⟨⟨trivial, ⟨rfl, hn, by omega⟩⟩, by rw [decide_eq_false_iff_not]; omega⟩, by omega, by rw [xl_len]; omega, by unfold mostBytes; omega, by unfold mostBytes; omega⟩, rfl, ?_, by omega, by omega⟩, rfl, ?_, by omega, by omega⟩
    · rw [eX, List.length_append, xl_len]; omega
    · rw [List.length_append, xl_len, ot_len]
  have := frame_by sw.pg (ka.KTa_ok ha.kb hz.shaN hz.AB hz.DS) _ (N11i ha.kb hz.shaN hz.AB hz.DS x y M m c) hp (by rfl) rfl
  rw [eX] at this
  exact this
end
end hq
end Go.Proofs.Ytgljibcokcgfbaa
namespace Go.Proofs.Ytgljibcokcgfbaa
open Go.ChangeShapes Go.WideShapes Go.ChangeAt Go.RowKit Go.Cln
namespace hq
set_option linter.unusedVariables false
noncomputable section
open hd
def ZE (KF : KT') (x : Acts) (y : KY) : List Int := List.take 64 (List.drop 0 (layI (xl (KF (WK x y)) 54) (0 + 64) (List.take 0 (List.drop 0 (x.D 0)))))
theorem ZE_eq (KF : KT') (x : Acts) (y : KY) : ZE KF x y = xl (KF (WK x y)) 54 := by
  unfold ZE layI
  have h := xl_len (KF (WK x y)) 54
  simp only [List.take_zero, List.drop_zero, List.nil_append, List.length_nil, Nat.add_zero, Nat.zero_add, List.take_append_drop]
  exact List.take_of_length_le (by omega)
def P11e (KF : KT') (D : DT) (x : Acts) (y : KY) : Prop := (((True ∧ c11 KF x y) ∧ ((0 = 0 ∨ 0 + 0 ≤ (x.D 0).length) ∧ 0 + 64 + 0 ≤ (xl (KF (WK x y)) 54).length)) ∧ b22 D (ZE KF x y) 64) ∧ b22 D (xl (KF (WK x y)) 92 ++ hy.ot1 (D (ZE KF x y))) 84
def h11e (x : Acts) : List (Option Ob) := [some (.fam x.F)] ++ ha.nn 338
theorem N11e (KF : KT') (D : DT) (A : AT) (E : ET) (x : Acts) (y : KY) : (call11 KF D A E x y E0 [] []).map (fun r => (r.1, r.2.obl, r.2.next, keepL ([true] ++ List.replicate 338 false) r.2.heap.get 0)) =
    some (hy.outV (tgD KF D (WK x y) (ZE KF x y)), P11e KF D x y, (h11e x).length, h11e x) := by kernel_rfl
theorem ref11e (x : Acts) (y : KY) (hn : y.n = (WK x y).length) (h1 : y.n ≤ 1000) : CallOk Try.prog 11 [kv y, E0] (smSt 1 [some (.fam x.F)] []) (hy.outV (tgN (WK x y) [])) (smSt 1 (h11e x) []) := by
  have hp : P11e ha.kb hz.shaN x y := by
    unfold P11e
    rw [ZE_eq]
    refine ⟨⟨⟨⟨trivial, ⟨rfl, hn, by omega⟩⟩, .inl rfl, by rw [xl_len]; decide⟩, rfl, (xl_len _ _).symm, by omega, by omega⟩, rfl, ?_, by omega, by omega⟩
    rw [List.length_append, xl_len, ot_len]
  have := frame_by sw.pg (ka.KTa_ok ha.kb hz.shaN hz.AB hz.DS) _ (N11e ha.kb hz.shaN hz.AB hz.DS x y) hp (by rfl) rfl
  have e : hd.tgD ha.kb hz.shaN (WK x y) (ZE ha.kb x y) = tgN (WK x y) [] := by
    rw [ZE_eq]
    show hd.tgD ha.kb hz.shaN (WK x y) (xl (ha.kb (WK x y)) 54) = hd.tgD ha.kb hz.shaN (WK x y) (xl (ha.kb (WK x y)) 54 ++ [])
    rw [List.append_nil]
  rw [e] at this
  exact this
/-- the document's tag, told: of no bytes; of bytes that grew -/
def F11 (x : Acts) (TG : TGf) (f : FuncId) (args : List Value) (s : Go.Cln.St) : Option Inst := if f == 11 then match args with
  | [.slice (some ⟨Q, 0, some 1000⟩) n c, v] => match v with
    | .slice (some ⟨0, 0, some 1000⟩) 0 0 => match s.heap.get 0 with
      | some (.fam Fm) => some ⟨[(0, 0)], 1, [some (.fam Fm)], [.slice (some ⟨Q, 0, some 1000⟩) n c, E0], hy.outV (TG (WK x ⟨Q, n, c⟩) []), some (.fam Fm) :: ha.nn 338, TG = tgN ∧ Fm = x.F ∧ n = (WK x ⟨Q, n, c⟩).length ∧ n ≤ 1000⟩
      | _ => none
    | .slice (some ⟨b, o, some 1⟩) m d => match s.heap.get 0 with
      | some (.fam Fm) => match s.heap.get b with
        | some (.cells (.ints .u8 l) _) => some ⟨[(0, 0), (b, o)], 2, [some (.fam Fm), oM ((l.drop o).take m)], [.slice (some ⟨Q, 0, some 1000⟩) n c, .slice (some ⟨1, 0, some 1⟩) m d], hy.outV (TG (WK x ⟨Q, n, c⟩) ((l.drop o).take m)), [some (.fam Fm), oM ((l.drop o).take m)] ++ ha.nn 339,
            TG = tgN ∧ Fm = x.F ∧ n = (WK x ⟨Q, n, c⟩).length ∧ n ≤ 1000 ∧ m = ((l.drop o).take m).length ∧ 0 < m ∧ m ≤ 9000⟩
        | _ => none
      | _ => none
    | _ => none
  | _ => none else none
theorem F11_ok (x : Acts) (TG : TGf) (f : FuncId) (args : List Value) (s : Go.Cln.St) (i : Inst) (h : F11 x TG f args s = some i) : Fits s i args ∧ (i.ask → CallOk Try.prog f i.args i.s0 i.val i.s1) := by
  unfold F11 at h
  split at h
  · rename_i hf
    have hf' : f = 11 := by simpa using hf
    subst hf'
    split at h
    · rename_i Q n c v
      split at h
      · split at h
        · rename_i Fm hF
          cases h
          refine ⟨⟨rfl, fun j pp ob h1 h2 => ?_⟩, fun ha' => ?_⟩
          · rcases j with _ | j
            · simp only [List.getElem?_cons_zero, Option.some.injEq] at h1
              subst h1
              simp only [List.getElem?_cons_zero, Option.some.injEq] at h2
              subst h2
              exact ⟨_, hF, fun _ _ _ _ hx => hx⟩
            · simp at h1
          · obtain ⟨rfl, rfl, q1, q2⟩ := ha'
            exact ref11e x ⟨Q, n, c⟩ q1 q2
        · cases h
      · rename_i b o m d
        split at h
        · rename_i Fm hF
          split at h
          · rename_i l ty hb
            cases h
            refine ⟨⟨?_, fun j pp ob h1 h2 => ?_⟩, fun ha' => ?_⟩
            · show [Value.slice (some ⟨Q, 0, some 1000⟩) n c, .slice (some ⟨b, o, some 1⟩) m d] = [Value.slice (some ⟨Q, 0, some 1000⟩) n c, .slice (some ⟨b, addO o 0, some 1⟩) m d]
              rw [addO_eq]; rfl
            · rcases j with _ | _ | j
              · simp only [List.getElem?_cons_zero, Option.some.injEq] at h1
                subst h1
                simp only [List.getElem?_cons_zero, Option.some.injEq] at h2
                subst h2
                exact ⟨_, hF, fun _ _ _ _ hx => hx⟩
              · simp only [Nat.zero_add, List.getElem?_cons_succ, List.getElem?_cons_zero, Option.some.injEq] at h1
                subst h1
                simp only [oM, Nat.zero_add, List.getElem?_cons_succ, List.getElem?_cons_zero, Option.some.injEq] at h2
                subst h2
                exact ⟨_, hb, fit_ints⟩
              · simp at h1
            · obtain ⟨rfl, rfl, q1, q2, q3, q4, q5⟩ := ha'
              exact ref11 x ⟨Q, n, c⟩ _ m d q1 q2 q3 q4 q5
          · cases h
        · cases h
      · cases h
    · cases h
  · cases h
def FT (x : Acts) (KF : KT') (A : AT) (TT : TTf) (TG : TGf) (f : FuncId) (args : List Value) (s : Go.Cln.St) : Option Inst := match hz.F22 A f args s with
  | some i => some i
  | none => match F10 TT f args s with
    | some i => some i
    | none => match F11 x TG f args s with
      | some i => some i
      | none => match F16 KF f args s with
        | some i => some i
        | none => match hd.FL A hz.shaN f args s with
          | some i => some i
          | none => F6 f args s
theorem FT_ok (x : Acts) (KF : KT') (A : AT) (TT : TTf) (TG : TGf) (f : FuncId) (args : List Value) (s : Go.Cln.St) (i : Inst) (h : FT x KF A TT TG f args s = some i) : Fits s i args ∧ (i.ask → CallOk Try.prog f i.args i.s0 i.val i.s1) := by
  unfold FT at h
  split at h
  · rename_i j h1
    cases h; exact hz.F22_ok A f args s _ h1
  · split at h
    · rename_i j h1
      cases h; exact F10_ok TT f args s _ h1
    · split at h
      · rename_i j h1
        cases h; exact F11_ok x TG f args s _ h1
      · split at h
        · rename_i j h1
          cases h; exact F16_ok KF f args s _ h1
        · split at h
          · rename_i j h1
            cases h; exact hd.FL_ok A hz.shaN f args s _ h1
          · exact F6_ok f args s _ h
def KT (x : Acts) (KF : KT') (XF : hd.XT) (A : AT) (TT : TTf) (TG : TGf) : Given := { Given.frames (Given.calls (hd.FP XF)) (FT x KF A TT TG) with fits := true }
theorem KT_ok (x : Acts) (KF : KT') (A : AT) (TT : TTf) (TG : TGf) : GivenOk Try.prog (KT x KF (xorI .u8) A TT TG) := frames_fits (hd.FP_ok.frames (FT_ok x KF A TT TG)) true
end
end hq
end Go.Proofs.Ytgljibcokcgfbaa
