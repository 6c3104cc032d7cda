/- Read off the code by the clean reading. -/
import Derived.Test.YteknepfcbpoooaaClnTa
import Derived.Test.YteknepfcbpoooaaClnQc
set_option linter.unusedVariables false
set_option linter.unusedSimpArgs false
set_option linter.deprecated false
set_option maxRecDepth 100000
namespace Go.Proofs.Yteknepfcbpoooaa
open Go.ChangeShapes Go.WideShapes Go.ChangeAt Go.RowKit Go.Cln
namespace na
open hc hx hy hz tb
set_option linter.unusedVariables false
noncomputable section
def nn (k : Nat) : List (Option Ob) := List.replicate k none
def w0 (sz : Int) : Int := IntKind.i64.wrap (sz + ((0 : Nat) : Int))
noncomputable def r22a (F : Nat → Nat → Cells) (h : HS) (sz : Int) (b o c : Nat) : Option (Value × St) := (mk Try.prog Given.nothing 300).call 22 [.pointer (some ⟨1, 0, none⟩), .slice (some ⟨b, o, some 1000⟩) 0 c] (smSt 1 [some (.fam F), some (objH h sz)] [])
theorem run22a (F : Nat → Nat → Cells) (h : HS) (sz : Int) (b o c : Nat) : (r22a F h sz b o c).map (fun r => (r.1, r.2.obl, r.2.next, keepL (true :: true :: List.replicate 6 false) r.2.heap.get 0)) =
    some (.int .i64 0, True, (some (.fam F) :: some (objH h (w0 sz)) :: nn 6).length, some (.fam F) :: some (objH h (w0 sz)) :: nn 6) := by kernel_rfl
theorem AB_nil (h : HS) : AB [] h = h := by
  unfold AB
  rw [show ([] : List Int).length = 0 from rfl, ab_zero]
theorem wra (F : Nat → Nat → Cells) (D : List Int) (b o n c : Nat) (h : HS) (sz : Int) (hF : F 1000 b = .ints .u8 D) (h0 : 0 ≤ h.rn) (h1 : h.rn < 64) (h2 : n = ((D.drop o).take n).length) (h3 : n ≤ c) :
    CallOk Try.prog 22 [.pointer (some ⟨1, 0, none⟩), .slice (some ⟨b, o, some 1000⟩) n c] (smSt 1 [some (.fam F), some (objH h sz)] []) (.int .i64 0)
      (smSt 1 (some (.fam F) :: some (objH (AB ((D.drop o).take n) h) (IntKind.i64.wrap (sz + (n : Int)))) :: nn 6) []) := by
  refine CallOk.abs (j := 1) (t := 5) (k := .u8) (L := (D.drop o).take n) (Nat.le_refl _) (by simp) (by simp) (by simp [nn]) rfl rfl (fun x y hy => ?_) h2 rfl ?_ ?_ rfl ?_ fun hn => ?_
  · rw [hF]
    rw [List.getElem?_take] at hy
    split at hy
    · rw [List.getElem?_drop] at hy
      simp only [Cells.get, hy]; rfl
    · cases hy
  · simp only [List.all_cons, List.all_nil, Bool.and_true]
    exact cH_flat h sz
  · have := cH_flat (AB ((D.drop o).take n) h) (IntKind.i64.wrap (sz + (n : Int)))
    simp only [List.all_cons]
    rw [show restOk (some (objH (AB ((D.drop o).take n) h) (IntKind.i64.wrap (sz + (n : Int))))) = true from this]; rfl
  · exact wr _ n c none (.inl rfl) h sz h0 h1 h2 h3
  · subst hn
    have := frame_by sw.pg (GivenOk.nothing _) _ (run22a F h sz b o c) trivial (by rfl) rfl
    rw [List.take_zero, AB_nil]
    exact this
def F22a (A : List Int → HS → HS) (f : FuncId) (args : List Value) (s : St) : Option Inst := if f == 22 then match args with
  | [.pointer (some ⟨p, 0, none⟩), .slice (some ⟨b, o, some 1000⟩) n c] => match s.heap.get p with
    | some (.cells (.lit l) _) => match s.heap.get 0 with
      | some (.fam F) => match F 1000 b with
        | .ints .u8 D => if okH l = true then
          some ⟨[(0, 0), (p, 0)], 1, [some (.fam F), some (.cells (.lit l) 73)], [.pointer (some ⟨1, 0, none⟩), .slice (some ⟨b, o, some 1000⟩) n c], .int .i64 0,
            some (.fam F) :: some (objH (A ((D.drop o).take n) (hOf l)) (IntKind.i64.wrap (intAt l 70 + (n : Int)))) :: nn 6, A = AB ∧ 0 ≤ intAt l 64 ∧ intAt l 64 < 64 ∧ n = ((D.drop o).take n).length ∧ n ≤ c⟩
          else none
        | _ => none
      | _ => none
    | _ => none
  | _ => none else none
theorem F22a_ok (A : List Int → HS → HS) (f : FuncId) (args : List Value) (s : St) (i : Inst) (h : F22a A f args s = some i) : Fits s i args ∧ (i.ask → CallOk Try.prog f i.args i.s0 i.val i.s1) := by
  unfold F22a at h
  split at h
  · rename_i hf
    have hf' : f = 22 := by simpa using hf
    subst hf'
    split at h
    · rename_i p b o n c
      split at h
      · rename_i l tp hp
        split at h
        · rename_i F hF
          split at h
          · rename_i D hD
            split at h
            · rename_i hok
              cases h
              have hl := okH_eq hok
              refine ⟨⟨rfl, fun j pp ob h1 h2 => ?_⟩, fun ha => ?_⟩
              · rcases j with _ | _ | j
                · simp only [List.getElem?_cons_zero, Option.some.injEq] at h1
                  subst h1
                  simp only [List.getElem?_cons_zero, Option.some.injEq] at h2
                  subst h2
                  exact ⟨_, hF, fun _ _ _ _ hx => hx⟩
                · simp only [Nat.zero_add, List.getElem?_cons_succ, List.getElem?_cons_zero, Option.some.injEq] at h1
                  subst h1
                  simp only [Nat.zero_add, List.getElem?_cons_succ, List.getElem?_cons_zero, Option.some.injEq] at h2
                  subst h2
                  exact ⟨_, hp, fit_flat (fun x v hx => by rw [Nat.zero_add]; exact hx) (by rw [hl]; exact cH_flat _ _)⟩
                · simp at h1
              · obtain ⟨rfl, q1, q2, q3, q4⟩ := ha
                have := wra F D b o n c (hOf l) (intAt l 70) hD q1 q2 q3 q4
                unfold objH at this
                rw [← hl] at this
                exact this
            · cases h
          · cases h
        · cases h
      · cases h
    · cases h
  · cases h
end
end na
end Go.Proofs.Yteknepfcbpoooaa
namespace Go.Proofs.Yteknepfcbpoooaa
open Go.ChangeShapes Go.WideShapes Go.ChangeAt Go.RowKit Go.Cln
namespace na
open hc hx hy hz tb
set_option linter.unusedVariables false
noncomputable section
abbrev AT := List Int → HS → HS
abbrev ET := HS → Nat → sw.N5
def FO (A : AT) (E : ET) (f : FuncId) (args : List Value) (s : St) : Option Inst := match F22a A f args s with
  | some i => some i
  | none => F23 E f args s
theorem FO_ok (A : AT) (E : ET) (f : FuncId) (args : List Value) (s : St) (i : Inst) (h : FO A E f args s = some i) : Fits s i args ∧ (i.ask → CallOk Try.prog f i.args i.s0 i.val i.s1) := by
  unfold FO at h
  split at h
  · rename_i j h1
    cases h; exact F22a_ok A f args s _ h1
  · exact F23_ok E f args s _ h
def KO (A : AT) (E : ET) : Given := { Given.frames Given.nothing (FO A E) with fits := true }
theorem KO_ok (A : AT) (E : ET) : GivenOk Try.prog (KO A E) := frames_fits ((GivenOk.nothing _).frames (FO_ok A E)) true
def body : Code := loopB Try.prog 13 0
def S (P n c : Nat) : Value := .slice (some ⟨P, 0, some 1001⟩) n c
def J (n : Nat) : List Value := List.replicate n junk
def U (n : Nat) : List Value := List.replicate n undef
def HO (x : Nest) (h : HS) (sz : Int) : Nat → Option Ob := fun i => match i with
  | 0 => some (.fam x.F)
  | 1 => some (.cells (.lit (List.replicate 20 (.int .u8 0))) 24)
  | 2 => some (.cells (.lit [.int .u32 1732584193, .int .u32 4023233417, .int .u32 2562383102, .int .u32 271733878, .int .u32 3285377520]) 31)
  | 3 => some (objH h sz)
  | _ => none
def E (x : Nest) (P n c : Nat) (h : HS) (sz : Int) : St := ⟨[S P n c, undef, P0 1 0, P0 3 0, undef, undef, P0 3 0, S P n c, .int .i64 (nI n), .int .i64 0] ++ U 9, [], Tr.rebuild (HO x h sz) 4, 4, 1, [], fun _ => false, True, []⟩
def R (x : Nest) (P n c : Nat) (h : HS) (sz : Int) (k : Nat) : St := ⟨[S P n c, undef, P0 1 0, P0 3 0, undef, junk, P0 3 0, S P n c, .int .i64 (nI n), .int .i64 (nI k)] ++ (J 7 ++ U 2), [], Tr.rebuild (HO x h sz) 4, 4, 1, [], fun _ => false, True, []⟩
def ix (k : Nat) : Nat := 0 + k * 1
def nh (A : AT) (x : Nest) (P : Nat) (h : HS) (sz : Int) (k : Nat) : HS := A (x.row P (ix k)) (hOf (cH h sz))
def nz (x : Nest) (P : Nat) (h : HS) (sz : Int) (k : Nat) : Int := IntKind.i64.wrap (intAt (cH h sz) 70 + ((x.m P (ix k) : Nat) : Int))
def pO (A : AT) (x : Nest) (P n : Nat) (h : HS) (sz : Int) (k : Nat) : Prop := ((((True ∧ decide (nI k < nI n) = true) ∧ (0 ≤ nI k ∧ nI k < nI n)) ∧ ix k < x.N P) ∧
  (A = AB ∧ 0 ≤ intAt (cH h sz) 64 ∧ intAt (cH h sz) 64 < 64 ∧ x.m P (ix k) = (x.row P (ix k)).length ∧ x.m P (ix k) ≤ x.c P (ix k))) ∧ IntKind.i64.wrap (nI k + 1) = nI k + 1
def oO : List (Option Bool) := [some true, some true, some true, some true]
theorem kE (A : AT) (E0 : ET) (x : Nest) (P n c : Nat) (h : HS) (sz : Int) (rd : Option Nat) : ((mk Try.prog (KO A E0) 200).code 13 rd body { E x P n c h sz with obl := True, orc := oO }).map (fun r => (r.1, r.2.obl, seenIn r.2 (R x P n c (nh A x P h sz 0) (nz x P h sz 0) (0 + 1)) [])) =
    some (.normal, pO A x P n h sz 0, seenAs (R x P n c (nh A x P h sz 0) (nz x P h sz 0) (0 + 1)) [] 10) := by kernel_rfl
theorem kR (A : AT) (E0 : ET) (x : Nest) (P n c : Nat) (h : HS) (sz : Int) (k : Nat) (rd : Option Nat) : ((mk Try.prog (KO A E0) 200).code 13 rd body { R x P n c h sz k with obl := True, orc := oO }).map (fun r => (r.1, r.2.obl, seenIn r.2 (R x P n c (nh A x P h sz k) (nz x P h sz k) (k + 1)) [])) =
    some (.normal, pO A x P n h sz k, seenAs (R x P n c (nh A x P h sz k) (nz x P h sz k) (k + 1)) [] 10) := by kernel_rfl
theorem kX (A : AT) (E0 : ET) (x : Nest) (P n c : Nat) (h : HS) (sz : Int) (k : Nat) (rd : Option Nat) : ((mk Try.prog (KO A E0) 200).code 13 rd body { R x P n c h sz k with obl := True, orc := [some false] }).map (fun r => (r.1, r.2.obl, seenIn r.2 (R x P n c h sz k) [])) =
    some (.exit 0, True ∧ decide (nI k < nI n) = false, seenAs (R x P n c h sz k) [] 4) := by kernel_rfl
theorem sE (A : AT) (E0 : ET) (x : Nest) (P n c : Nat) (h h0 : HS) (sz z0 : Int) (rd : Option Nat) (hp : pO A x P n h sz 0) : Step Try.prog rd (E x P n c h0 z0) body (E x P n c h sz) (fun e' t => e' = .normal ∧ t = R x P n c (nh A x P h sz 0) (nz x P h sz 0) (0 + 1)) :=
  Step.std sw.pg (KO_ok A E0) (kE A E0 x P n c h sz rd) hp (show 4 ≤ 4 by decide) (g := HO x (nh A x P h sz 0) (nz x P h sz 0)) rfl (by kernel_rfl)
theorem sR (A : AT) (E0 : ET) (x : Nest) (P n c : Nat) (h h0 : HS) (sz z0 : Int) (k : Nat) (rd : Option Nat) (hp : pO A x P n h sz k) : Step Try.prog rd (E x P n c h0 z0) body (R x P n c h sz k) (fun e' t => e' = .normal ∧ t = R x P n c (nh A x P h sz k) (nz x P h sz k) (k + 1)) :=
  Step.std sw.pg (KO_ok A E0) (kR A E0 x P n c h sz k rd) hp (show 4 ≤ 4 by decide) (g := HO x (nh A x P h sz k) (nz x P h sz k)) rfl (by kernel_rfl)
theorem sX (A : AT) (E0 : ET) (x : Nest) (P n c : Nat) (h h0 : HS) (sz z0 : Int) (k : Nat) (rd : Option Nat) (hp : True ∧ decide (nI k < nI n) = false) : Step Try.prog rd (E x P n c h0 z0) body (R x P n c h sz k) (fun e' t => e' = .exit 0 ∧ t = R x P n c h sz k) :=
  Step.std sw.pg (KO_ok A E0) (kX A E0 x P n c h sz k rd) hp (show 4 ≤ 4 by decide) (g := HO x h sz) rfl (by kernel_rfl)
end
end na
end Go.Proofs.Yteknepfcbpoooaa
namespace Go.Proofs.Yteknepfcbpoooaa
open Go.ChangeShapes Go.WideShapes Go.ChangeAt Go.RowKit Go.Cln
namespace na
open hc hx hy hz tb
set_option linter.unusedVariables false
noncomputable section
def hs (x : Nest) (P : Nat) : Nat → HS × Int
  | 0 => (hOf l0, 0)
  | k + 1 => (nh AB x P (hs x P k).1 (hs x P k).2 k, nz x P (hs x P k).1 (hs x P k).2 k)
theorem ix_eq (k : Nat) : ix k = k := by unfold ix; omega
theorem at64 (h : HS) (sz : Int) : intAt (cH h sz) 64 = h.rn := rfl
theorem at70 (h : HS) (sz : Int) : intAt (cH h sz) 70 = sz := rfl
def most : Nat := 1152921504606846976
theorem hs_sem {x : Nest} {P : Nat} (h : x.Ok P) {n : Nat} (hn : n ≤ x.N P) (hb : (x.cat P n).length ≤ most) : ∀ k, k ≤ n → SemH (hs x P k).1 (x.cat P k) ∧ (hs x P k).2 = ((x.cat P k).length : Int)
  | 0, _ => ⟨SemH.zero, rfl⟩
  | k + 1, hk => by
    obtain ⟨k1, k2⟩ := hs_sem h hn hb k (by omega)
    have hr : (x.row P k).length = x.m P k := h.len k (by omega)
    have hlen := Nest.cat_mono (x := x) (P := P) n (k + 1) hk
    have e : (x.cat P (k + 1)).length = (x.cat P k).length + (x.row P k).length := by simp [Nest.cat]
    unfold most at hb
    refine ⟨?_, ?_⟩
    · show SemH (nh AB x P _ _ k) (x.cat P k ++ x.row P k)
      unfold nh
      rw [ix_eq]
      exact SemH.AB (k1.cells _) (Nest.cat_byte h k (by omega)) (h.byte k (by omega))
    · show nz x P _ _ k = _
      unfold nz
      rw [ix_eq, at70, k2, IntKind.wrap_i64]
      omega
theorem pO_of {x : Nest} {P : Nat} (h : x.Ok P) {n : Nat} (hn : n ≤ x.N P) (hm : n < most) (hb : (x.cat P n).length ≤ most) {k : Nat} (hk : k < n) : pO AB x P n (hs x P k).1 (hs x P k).2 k := by
  obtain ⟨k1, k2⟩ := hs_sem h hn hb k (by omega)
  unfold pO
  rw [ix_eq, at64, k1.rn]
  unfold most at hm
  refine ⟨⟨⟨⟨⟨trivial, ?_⟩, ?_⟩, by omega⟩, rfl, by omega, by omega, (h.len k (by omega)).symm, h.room k (by omega)⟩, ?_⟩
  · simp only [nI, decide_eq_true_eq]; omega
  · simp only [nI]; omega
  · simp only [nI]; rw [IntKind.wrap_i64]; omega
theorem loopO {x : Nest} {P : Nat} (E0 : ET) (h : x.Ok P) {n c : Nat} (hn : n ≤ x.N P) (h0 : 0 < n) (hm : n < most) (hb : (x.cat P n).length ≤ most) (rd : Option Nat) :
    CodeOk Try.prog rd (.loop body) (E x P n c (hs x P 0).1 (hs x P 0).2) (.exit 0) (R x P n c (hs x P n).1 (hs x P n).2 n) := by
  refine CodeOk.of_step (Step.loop (fun g t => (g = n ∧ t = E x P n c (hs x P 0).1 (hs x P 0).2) ∨ ∃ (j : Nat), 1 ≤ j ∧ j ≤ n ∧ g = n - j ∧ t = R x P n c (hs x P j).1 (hs x P j).2 j) ?_ n _ (.inl ⟨rfl, rfl⟩))
  rintro g t (⟨rfl, rfl⟩ | ⟨j, g1, g2, rfl, rfl⟩)
  · refine (sE AB E0 x P g c (hs x P 0).1 (hs x P 0).1 (hs x P 0).2 (hs x P 0).2 rd (pO_of h hn hm hb h0)).mono ?_
    rintro e' t ⟨rfl, rfl⟩
    exact .inl ⟨rfl, g - 1, by omega, .inr ⟨1, by omega, by omega, rfl, rfl⟩⟩
  · by_cases hj : j = n
    · subst hj
      refine (sX AB E0 x P j c (hs x P j).1 (hs x P 0).1 (hs x P j).2 (hs x P 0).2 j rd ⟨trivial, by simp only [nI, decide_eq_false_iff_not]; omega⟩).mono ?_
      rintro e' t ⟨rfl, rfl⟩
      exact .inr ⟨(by intro x; cases x), rfl, rfl⟩
    · refine (sR AB E0 x P n c (hs x P j).1 (hs x P 0).1 (hs x P j).2 (hs x P 0).2 j rd (pO_of h hn hm hb (by omega))).mono ?_
      rintro e' t ⟨rfl, rfl⟩
      exact .inl ⟨rfl, n - (j + 1), by omega, .inr ⟨j + 1, by omega, by omega, rfl, rfl⟩⟩
def askO (X : St) (f : FuncId) (c : Code) (s : St) : Option Ask2 := if f == 13 then some ⟨⟨[], [], [], []⟩, .exit 0, fun _ => X⟩ else none
def hZ : List (Option Ob) := List.replicate 20 none
def kO : List Bool := true :: List.replicate 20 false
def p23 (E0 : ET) (h : HS) (sz : Int) : Prop := E0 = DS ∧ 0 ≤ intAt (cH h sz) 70 ∧ intAt (cH h sz) 70 ≤ 1152921504606846976 ∧ intAt (cH h sz) 64 = (((intAt (cH h sz) 70).toNat % 64 : Nat) : Int)
theorem runO (E0 : ET) (x : Nest) (P n c : Nat) (h : HS) (sz : Int) : ((mk Try.prog (Given.asking2 (KO AB E0) Try.prog (askO (R x P n c h sz n))) 300).call 13 [S P n c] (smSt 1 [some (.fam x.F)] [])).map (fun r => (r.1, r.2.obl, r.2.next, keepL kO r.2.heap.get 0)) =
    some (outV (E0 (hOf (cH h sz)) (intAt (cH h sz) 70).toNat), (True ∧ (∀ rd, CodeOk Try.prog rd (.loop body) (E x P n c (hOf l0) 0) (.exit 0) (R x P n c h sz n))) ∧ p23 E0 h sz, (some (Ob.fam x.F) :: hZ).length, some (Ob.fam x.F) :: hZ) := by kernel_rfl
theorem runO0 (E0 : ET) (x : Nest) (P c : Nat) : ((mk Try.prog (KO AB E0) 300).call 13 [S P 0 c] (smSt 1 [some (.fam x.F)] [])).map (fun r => (r.1, r.2.obl, r.2.next, keepL kO r.2.heap.get 0)) =
    some (outV (E0 (hOf (cH (hOf l0) 0)) (intAt (cH (hOf l0) 0) 70).toNat), True ∧ p23 E0 (hOf l0) 0, (some (Ob.fam x.F) :: hZ).length, some (Ob.fam x.F) :: hZ) := by kernel_rfl
theorem of_ok {x : Nest} {P : Nat} (h : x.Ok P) {n c : Nat} (hn : n ≤ x.N P) (hm : n < most) (hb : (x.cat P n).length ≤ most) :
    CallOk Try.prog 13 [S P n c] (smSt 1 [some (.fam x.F)] []) (outV (shaN (x.cat P n))) (smSt 1 (some (Ob.fam x.F) :: hZ) []) := by
  obtain ⟨k1, k2⟩ := hs_sem h hn hb n (Nat.le_refl _)
  have hp : p23 DS (hs x P n).1 (hs x P n).2 := by
    unfold p23
    rw [at70, at64, k2, k1.rn]
    unfold most at hb
    exact ⟨rfl, by omega, by omega, by rw [Int.toNat_natCast]⟩
  have ev : DS (hOf (cH (hs x P n).1 (hs x P n).2)) (intAt (cH (hs x P n).1 (hs x P n).2) 70).toNat = shaN (x.cat P n) := by
    rw [at70]
    have := (k1.cells (hs x P n).2).DS (Nest.cat_byte h n hn)
    rw [k2, Int.toNat_natCast]
    rw [k2] at this
    exact this
  by_cases h0 : n = 0
  · subst h0
    have := frame_by sw.pg (KO_ok AB DS) _ (runO0 DS x P c) ⟨trivial, hp⟩ (by rfl) rfl
    rw [← ev]; exact this
  · have := frame_by sw.pg ((KO_ok AB DS).asking2 _) _ (runO DS x P n c (hs x P n).1 (hs x P n).2) ⟨⟨trivial, fun rd => loopO DS h hn (by omega) hm hb rd⟩, hp⟩ (by rfl) rfl
    rw [ev] at this; exact this
end
end na
end Go.Proofs.Yteknepfcbpoooaa
