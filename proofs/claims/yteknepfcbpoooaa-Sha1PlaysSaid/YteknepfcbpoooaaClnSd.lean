/- Read off the code by the clean reading. -/
import Derived.Test.YteknepfcbpoooaaClnSc
import Derived.Test.YteknepfcbpoooaaClnSa
import Derived.Test.YteknepfcbpoooaaClnSb
import Derived.Test.YteknepfcbpoooaaClnQc
set_option linter.unusedVariables false
set_option linter.unusedSimpArgs false
set_option linter.deprecated false
set_option maxRecDepth 100000
namespace Go.Proofs.Yteknepfcbpoooaa
open Go.ChangeShapes Go.WideShapes Go.ChangeAt Go.RowKit Go.Cln
namespace hz
open hc hx hy
set_option linter.unusedVariables false
noncomputable section
structure HS where
  b : Nat → Int
  rn : Int
  s : sw.N5
def cH (h : HS) (sz : Int) : List Value := rowV .u8 64 h.b ++ (.int .i64 h.rn :: (h.s.row ++ [.int .i64 sz, .bool true]))
def okH (l : List Value) : Bool := l.length == 72 && (l.take 64).all (isKind .u8) && ((l.drop 64).take 1).all (isKind .i64) && ((l.drop 65).take 5).all (isKind .u32) && ((l.drop 70).take 1).all (isKind .i64) && (match l.drop 71 with | [.bool true] => true | _ => false)
def hOf (l : List Value) : HS := ⟨intAt l, intAt l 64, sw.n5L ((l.drop 65).take 5)⟩
theorem row_eq {k : IntKind} {n : Nat} {f g : Nat → Int} (h : ∀ j, j < n → f j = g j) : rowV k n f = rowV k n g := by
  unfold rowV
  rw [famList_eq, famList_eq]
  refine List.map_congr_left fun j hj => ?_
  have := List.mem_range.1 hj
  simp only [Nat.zero_add]
  rw [h j this]
theorem okH_eq {l : List Value} (h : okH l = true) : l = cH (hOf l) (intAt l 70) := by
  unfold okH at h
  simp only [Bool.and_eq_true, beq_iff_eq] at h
  obtain ⟨⟨⟨⟨⟨h1, h2⟩, h3⟩, h4⟩, h5⟩, h6⟩ := h
  have at_ : ∀ (a n : Nat) (i : Nat), i < n → a + n ≤ 72 → ((l.drop a).take n)[i]? = l[a + i]? := fun a n i hi _ => by
    rw [List.getElem?_take, if_pos hi, List.getElem?_drop]
  have iA : ∀ (a n i : Nat), i < n → a + n ≤ 72 → intAt ((l.drop a).take n) i = intAt l (a + i) := fun a n i hi hb => by
    unfold intAt
    rw [getL_eq, getL_eq, List.getD_eq_getElem?_getD, List.getD_eq_getElem?_getD, at_ a n i hi hb]
  have e1 : l.take 64 = rowV .u8 64 (intAt l) := by
    rw [← rowV_of (k := .u8) (n := 64) (by rw [List.length_take]; omega) h2]
    refine row_eq fun j hj => ?_
    have := iA 0 64 j hj (by omega)
    simpa using this
  have e2 : (l.drop 64).take 1 = [.int .i64 (intAt l 64)] := by
    have := rowV_of (k := .i64) (n := 1) (by rw [List.length_take, List.length_drop]; omega) h3
    rw [← this]
    show [Value.int .i64 (intAt ((l.drop 64).take 1) 0)] = _
    rw [iA 64 1 0 (by omega) (by omega)]
  have e3 : (l.drop 65).take 5 = (sw.n5L ((l.drop 65).take 5)).row := (sw.n5L_row (by rw [List.length_take, List.length_drop]; omega) h4).symm
  have e4 : (l.drop 70).take 1 = [.int .i64 (intAt l 70)] := by
    have := rowV_of (k := .i64) (n := 1) (by rw [List.length_take, List.length_drop]; omega) h5
    rw [← this]
    show [Value.int .i64 (intAt ((l.drop 70).take 1) 0)] = _
    rw [iA 70 1 0 (by omega) (by omega)]
  have e5 : l.drop 71 = [.bool true] := by
    split at h6
    · rename_i h; exact h
    · cases h6
  have s1 : l = l.take 64 ++ ((l.drop 64).take 1 ++ ((l.drop 65).take 5 ++ ((l.drop 70).take 1 ++ l.drop 71))) := by
    have a1 := (List.take_append_drop 64 l).symm
    have a2 := (List.take_append_drop 1 (l.drop 64)).symm
    have a3 := (List.take_append_drop 5 (l.drop 65)).symm
    have a4 := (List.take_append_drop 1 (l.drop 70)).symm
    rw [List.drop_drop] at a2 a3 a4
    rw [show 64 + 1 = 65 from rfl] at a2
    rw [show 65 + 5 = 70 from rfl] at a3
    rw [show 70 + 1 = 71 from rfl] at a4
    rw [← a4, ← a3, ← a2, ← a1]
  conv => lhs; rw [s1, e1, e2, e3, e4, e5]
  rfl
theorem flat_row (k : IntKind) (n : Nat) (f : Nat → Int) : (rowV k n f).all flat0 = true := by
  unfold rowV
  rw [famList_eq, List.all_eq_true]
  intro x hx
  obtain ⟨j, _, rfl⟩ := List.mem_map.1 hx
  rfl
theorem cH_flat (h : HS) (sz : Int) : (cH h sz).all flat0 = true := by
  unfold cH
  rw [List.all_append, flat_row]; rfl
def objH (h : HS) (sz : Int) : Ob := .cells (.lit (cH h sz)) 73
def AB (L : List Int) (h : HS) : HS := ⟨(ab sw.blk L L.length 0 L.length h.b h.rn h.s).1, (ab sw.blk L L.length 0 L.length h.b h.rn h.s).2.1, (ab sw.blk L L.length 0 L.length h.b h.rn h.s).2.2⟩
theorem wr (L : List Int) (n c : Nat) (g : Option Nat) (hg : g = none ∨ g = some 1) (h : HS) (sz : Int) (h0 : 0 ≤ h.rn) (h1 : h.rn < 64) (h2 : n = L.length) (h3 : n ≤ c) :
    CallOk Try.prog 22 [.pointer (some ⟨1, 0, none⟩), .slice (some ⟨0, 0, g⟩) n c] (smSt 1 [some (Ob.cells (.ints .u8 L) 5), some (objH h sz)] []) (.int .i64 0)
      (smSt 1 (some (Ob.cells (.ints .u8 L) 5) :: some (objH (AB L h) (IntKind.i64.wrap (sz + (n : Int)))) :: List.replicate 6 none) []) := by
  subst h2
  rcases hg with rfl | rfl
  · exact hw.wr_ok L 0 L.length c h.b h.rn h.s sz h0 h1 (by omega) h3
  · exact hv.wr_ok L 0 L.length c h.b h.rn h.s sz h0 h1 (by omega) h3
def gOk : Option Nat → Bool
  | none => true
  | some g => g == 1
theorem gOk_eq {g : Option Nat} (h : gOk g = true) : g = none ∨ g = some 1 := by
  cases g with
  | none => exact .inl rfl
  | some g => exact .inr (by simp [gOk] at h; rw [h])
def F22 (A : List Int → HS → HS) (f : FuncId) (args : List Value) (s : St) : Option Inst := if f == 22 then match args with
  | [.pointer (some ⟨p, 0, none⟩), .slice (some ⟨b, o, g⟩) n c] => match s.heap.get p with
    | some (.cells (.lit l) _) => match s.heap.get b with
      | some (.cells (.ints .u8 L) _) => if okH l = true ∧ gOk g = true then
          some ⟨[(b, o), (p, 0)], 1, [some (Ob.cells (.ints .u8 ((L.drop o).take n)) 5), some (.cells (.lit l) 73)], [.pointer (some ⟨1, 0, none⟩), .slice (some ⟨0, 0, g⟩) n c], .int .i64 0,
            some (Ob.cells (.ints .u8 ((L.drop o).take n)) 5) :: some (objH (A ((L.drop o).take n) (hOf l)) (IntKind.i64.wrap (intAt l 70 + (n : Int)))) :: List.replicate 6 none, A = AB ∧ 0 ≤ intAt l 64 ∧ intAt l 64 < 64 ∧ n = ((L.drop o).take n).length ∧ n ≤ c⟩
        else none
      | _ => none
    | _ => none
  | _ => none else none
theorem F22_ok (A : List Int → HS → HS) (f : FuncId) (args : List Value) (s : St) (i : Inst) (h : F22 A f args s = some i) : Fits s i args ∧ (i.ask → CallOk Try.prog f i.args i.s0 i.val i.s1) := by
  unfold F22 at h
  split at h
  · rename_i hf
    have hf' : f = 22 := by simpa using hf
    subst hf'
    split at h
    · rename_i p b o g n c
      split at h
      · rename_i l tp hp
        split at h
        · rename_i L tb hb
          split at h
          · rename_i hc
            obtain ⟨hok, hg⟩ := hc
            cases h
            have hl := okH_eq hok
            refine ⟨⟨?_, fun j pp ob h1 h2 => ?_⟩, fun ha => ?_⟩
            · have e : [Value.pointer (some ⟨p, 0, none⟩), .slice (some ⟨b, o, g⟩) n c] = [.pointer (some ⟨p, 0, none⟩), .slice (some ⟨b, addO o 0, g⟩) n c] := by rw [addO_eq]; rfl
              rcases gOk_eq hg with rfl | rfl <;> exact e
            · rcases j with _ | _ | j
              · simp only [List.getElem?_cons_zero, Option.some.injEq] at h1
                subst h1
                simp only [List.getElem?_cons_zero, Option.some.injEq] at h2
                subst h2
                exact ⟨_, hb, fit_ints⟩
              · simp only [Nat.zero_add, List.getElem?_cons_succ, List.getElem?_cons_zero, Option.some.injEq] at h1
                subst h1
                simp only [Nat.zero_add, List.getElem?_cons_succ, List.getElem?_cons_zero, Option.some.injEq] at h2
                subst h2
                exact ⟨_, hp, fit_flat (fun x v hx => by rw [Nat.zero_add]; exact hx) (by rw [hl]; exact cH_flat _ _)⟩
              · simp at h1
            · obtain ⟨rfl, q1, q2, q3, q4⟩ := ha
              have := wr ((L.drop o).take n) n c g (gOk_eq hg) (hOf l) (intAt l 70) q1 q2 q3 q4
              unfold objH at this
              rw [← hl] at this
              exact this
          · cases h
        · cases h
      · cases h
    · cases h
  · cases h
def DS (h : HS) (m : Nat) : sw.N5 := (ab sw.blk (T m) (tl m) 0 (tl m) h.b h.rn h.s).2.2
theorem sm (h : HS) (sz : Int) (h0 : 0 ≤ sz) (h1 : sz ≤ 1152921504606846976) (hr : h.rn = ((sz.toNat % 64 : Nat) : Int)) :
    CallOk Try.prog 23 [.pointer (some ⟨0, 0, none⟩)] (smSt 1 [some (objH h sz)] []) (outV (DS h sz.toNat)) (smSt 1 (some (objH h sz) :: List.replicate 17 none) []) := by
  obtain ⟨m, rfl⟩ : ∃ m : Nat, sz = (m : Int) := ⟨sz.toNat, by omega⟩
  simp only [Int.toNat_natCast] at *
  obtain ⟨k, g, hk⟩ := sum_ok h.b h.rn h.s m (by omega) hr
  rcases hk with ⟨rfl, _⟩ | ⟨rfl, _⟩
  · have := g.pad 1 (by simp [hpS]) (by simp [hH]) (by simp [hH, hpS])
    exact this
  · exact g
def F23 (D : HS → Nat → sw.N5) (f : FuncId) (args : List Value) (s : St) : Option Inst := if f == 23 then match args with
  | [.pointer (some ⟨p, 0, none⟩)] => match s.heap.get p with
    | some (.cells (.lit l) _) => if okH l = true then
        some ⟨[(p, 0)], 1, [some (.cells (.lit l) 73)], [.pointer (some ⟨0, 0, none⟩)], outV (D (hOf l) (intAt l 70).toNat), some (.cells (.lit l) 73) :: List.replicate 17 none,
          D = DS ∧ 0 ≤ intAt l 70 ∧ intAt l 70 ≤ 1152921504606846976 ∧ intAt l 64 = (((intAt l 70).toNat % 64 : Nat) : Int)⟩
      else none
    | _ => none
  | _ => none else none
theorem F23_ok (D : HS → Nat → sw.N5) (f : FuncId) (args : List Value) (s : St) (i : Inst) (h : F23 D f args s = some i) : Fits s i args ∧ (i.ask → CallOk Try.prog f i.args i.s0 i.val i.s1) := by
  unfold F23 at h
  split at h
  · rename_i hf
    have hf' : f = 23 := by simpa using hf
    subst hf'
    split at h
    · rename_i p
      split at h
      · rename_i l tp hp
        split at h
        · rename_i hok
          cases h
          have hl := okH_eq hok
          refine ⟨⟨rfl, fun j pp ob h1 h2 => ?_⟩, fun ha => ?_⟩
          · rcases j with _ | j
            · simp only [List.getElem?_cons_zero, Option.some.injEq] at h1
              subst h1
              simp only [List.getElem?_cons_zero, Option.some.injEq] at h2
              subst h2
              exact ⟨_, hp, fit_flat (fun x v hx => by rw [Nat.zero_add]; exact hx) (by rw [hl]; exact cH_flat _ _)⟩
            · simp at h1
          · obtain ⟨rfl, q1, q2, q3⟩ := ha
            have := sm (hOf l) (intAt l 70) q1 q2 q3
            unfold objH at this
            rw [← hl] at this
            exact this
        · cases h
      · cases h
    · cases h
  · cases h
end
end hz
end Go.Proofs.Yteknepfcbpoooaa
namespace Go.Proofs.Yteknepfcbpoooaa
open Go.ChangeShapes Go.WideShapes Go.ChangeAt Go.RowKit Go.Cln
namespace hz
open hc hx hy
set_option linter.unusedVariables false
noncomputable section
def F0 : sw.N5 := ⟨1732584193, 4023233417, 2562383102, 271733878, 3285377520⟩
theorem F0_ok : sw.ok5 F0 := by unfold sw.ok5 F0; decide
def shaN (M : List Int) : sw.N5 := fold sw.blkR F0 ((M.length + tl M.length) / 64) (M ++ T M.length)
def SemH (h : HS) (M : List Int) : Prop := hx.Sem sw.blkR F0 h.b h.rn h.s M
theorem byt_T (m : Nat) : Byt (T m) := fun x hx => by
  unfold T be8 at hx
  rcases List.mem_cons.1 hx with rfl | hx
  · decide
  · rcases List.mem_append.1 hx with hx | hx
    · rw [(List.mem_replicate.1 hx).2]; decide
    · have key : ∀ j, 0 ≤ by8 ((m : Int) * 8) j ∧ by8 ((m : Int) * 8) j < 256 := fun j => by unfold by8; rw [IntKind.wrap_u8]; omega
      simp only [List.mem_cons, List.not_mem_nil, or_false] at hx
      rcases hx with rfl | rfl | rfl | rfl | rfl | rfl | rfl | rfl <;> exact key _
theorem SemH.rn {h : HS} {M : List Int} (k : SemH h M) : h.rn = ((M.length % 64 : Nat) : Int) := hx.Sem.rn k
theorem SemH.AB {h : HS} {M L : List Int} (k : SemH h M) (hM : Byt M) (hL : Byt L) : SemH (AB L h) (M ++ L) := by
  have := ab_sem agree F0_ok hL L.length 0 L.length h.b h.rn h.s M (Nat.le_refl _) (by omega) hM k
  rw [List.drop_zero, List.take_length] at this
  exact this
theorem SemH.DS {h : HS} {M : List Int} (k : SemH h M) (hM : Byt M) : DS h M.length = shaN M := by
  have := ab_sem agree F0_ok (byt_T M.length) (tl M.length) 0 (tl M.length) h.b h.rn h.s M (Nat.le_refl _) (by rw [T_len]; omega) hM k
  have e := this.s
  rw [List.drop_zero, List.take_of_length_le (by rw [T_len]; exact Nat.le_refl _)] at e
  unfold hz.DS
  rw [e, List.length_append, T_len]; rfl
theorem cH_at {h : HS} {sz : Int} {j : Nat} (hj : j < 64) : intAt (cH h sz) j = h.b j := by
  unfold cH intAt
  rw [getL_eq, List.getD_eq_getElem?_getD, List.getElem?_append_left (by rw [show (rowV .u8 64 h.b).length = 64 from by unfold rowV; rw [famList_eq]; simp]; exact hj)]
  have := intAt_row (k := .u8) (n := 64) (g := h.b) hj
  unfold intAt at this
  rw [getL_eq, List.getD_eq_getElem?_getD] at this
  exact this
theorem SemH.cells {h : HS} {M : List Int} (k : SemH h M) (sz : Int) : SemH (hOf (cH h sz)) M := by
  obtain ⟨h1, h2, h3⟩ := k
  refine ⟨h1, h2, fun j hj => ?_⟩
  rw [← h3 j hj]
  exact cH_at (by omega)
def l0 : List Value := rowV .u8 64 (fun _ => 0) ++ (.int .i64 0 :: (F0.row ++ [.int .i64 0, .bool true]))
theorem SemH.zero : SemH (hOf l0) [] := ⟨rfl, rfl, fun j hj => by simp at hj⟩
def FH (A : List Int → HS → HS) (D : HS → Nat → sw.N5) (f : FuncId) (args : List Value) (s : St) : Option Inst := match F22 A f args s with
  | some i => some i
  | none => F23 D f args s
theorem FH_ok (A : List Int → HS → HS) (D : HS → Nat → sw.N5) (f : FuncId) (args : List Value) (s : St) (i : Inst) (h : FH A D f args s = some i) : Fits s i args ∧ (i.ask → CallOk Try.prog f i.args i.s0 i.val i.s1) := by
  unfold FH at h
  split at h
  · rename_i j h1
    cases h; exact F22_ok A f args s _ h1
  · exact F23_ok D f args s _ h
def KH (A : List Int → HS → HS) (D : HS → Nat → sw.N5) : Given := Given.frames Given.nothing (FH A D)
theorem KH_ok (A : List Int → HS → HS) (D : HS → Nat → sw.N5) : GivenOk Try.prog (KH A D) := (GivenOk.nothing _).frames (FH_ok A D)
def hB (L : List Int) : List (Option Ob) := [some (Ob.cells (.ints .u8 L) 5)]
def r11 (A : List Int → HS → HS) (D : HS → Nat → sw.N5) (L : List Int) (n c : Nat) (g : Option Nat) (o : List (Option Bool)) : Option (Value × St) := (mk Try.prog (KH A D) 300).call 11 [.slice (some ⟨0, 0, g⟩) n c] (smSt 1 (hB L) o)
end
end hz
end Go.Proofs.Yteknepfcbpoooaa
namespace Go.Proofs.Yteknepfcbpoooaa
open Go.ChangeShapes Go.WideShapes Go.ChangeAt Go.RowKit Go.Cln
namespace hz
open hc hx hy
set_option linter.unusedVariables false
noncomputable section
def w1 (n : Nat) : Int := IntKind.i64.wrap (intAt l0 70 + (n : Int))
def h1 (A : List Int → HS → HS) (L : List Int) (n : Nat) : HS := A ((L.drop 0).take n) (hOf l0)
def out11 (L : List Int) : List (Option Ob) := some (Ob.cells (.ints .u8 L) 5) :: List.replicate 28 none
end
end hz
end Go.Proofs.Yteknepfcbpoooaa
