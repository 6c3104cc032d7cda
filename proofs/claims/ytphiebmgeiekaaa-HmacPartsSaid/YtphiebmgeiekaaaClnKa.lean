/- Read off the code by the clean reading. -/
import Derived.Test.YtphiebmgeiekaaaClnTc
import Derived.Test.YtphiebmgeiekaaaClnQd
import Derived.Test.YtphiebmgeiekaaaClnHd
set_option linter.unusedVariables false
set_option linter.unusedSimpArgs false
set_option linter.deprecated false
set_option maxRecDepth 100000
namespace Go.Proofs.Ytphiebmgeiekaaa
open Go.ChangeShapes Go.WideShapes Go.ChangeAt Go.RowKit Go.Cln
namespace na
open hc hx hy hz tb
set_option linter.unusedVariables false
noncomputable section
def nn (k : Nat) : List (Option Ob) := List.replicate k none
def w0 (sz : Int) : Int := IntKind.i64.wrap (sz + ((0 : Nat) : Int))
noncomputable def r22a (F : Nat → Nat → Cells) (h : HS) (sz : Int) (b o c : Nat) : Option (Value × St) := (mk Try.prog Given.nothing 300).call 35 [.pointer (some ⟨1, 0, none⟩), .slice (some ⟨b, o, some 1000⟩) 0 c] (smSt 1 [some (.fam F), some (objH h sz)] [])
theorem run22a (F : Nat → Nat → Cells) (h : HS) (sz : Int) (b o c : Nat) : (r22a F h sz b o c).map (fun r => (r.1, r.2.obl, r.2.next, keepL (true :: true :: List.replicate 6 false) r.2.heap.get 0)) =
    some (.int .i64 0, True, (some (.fam F) :: some (objH h (w0 sz)) :: nn 6).length, some (.fam F) :: some (objH h (w0 sz)) :: nn 6) := by kernel_rfl
theorem AB_nil (h : HS) : AB [] h = h := by
  unfold AB
  rw [show ([] : List Int).length = 0 from rfl, ab_zero]
theorem wra (F : Nat → Nat → Cells) (D : List Int) (b o n c : Nat) (h : HS) (sz : Int) (hF : F 1000 b = .ints .u8 D) (h0 : 0 ≤ h.rn) (h1 : h.rn < 64) (h2 : n = ((D.drop o).take n).length) (h3 : n ≤ c) :
    CallOk Try.prog 35 [.pointer (some ⟨1, 0, none⟩), .slice (some ⟨b, o, some 1000⟩) n c] (smSt 1 [some (.fam F), some (objH h sz)] []) (.int .i64 0)
      (smSt 1 (some (.fam F) :: some (objH (AB ((D.drop o).take n) h) (IntKind.i64.wrap (sz + (n : Int)))) :: nn 6) []) := by
  refine CallOk.abs (j := 1) (t := 5) (k := .u8) (L := (D.drop o).take n) (Nat.le_refl _) (by simp) (by simp) (by simp [nn]) rfl rfl (fun x y hy => ?_) h2 rfl ?_ ?_ rfl ?_ fun hn => ?_
  · rw [hF]
    rw [List.getElem?_take] at hy
    split at hy
    · rw [List.getElem?_drop] at hy
      simp only [Cells.get, hy]; rfl
    · cases hy
  · simp only [List.all_cons, List.all_nil, Bool.and_true]
    exact cH_flat h sz
  · have := cH_flat (AB ((D.drop o).take n) h) (IntKind.i64.wrap (sz + (n : Int)))
    simp only [List.all_cons]
    rw [show restOk (some (objH (AB ((D.drop o).take n) h) (IntKind.i64.wrap (sz + (n : Int))))) = true from this]; rfl
  · exact wr _ n c none (.inl rfl) h sz h0 h1 h2 h3
  · subst hn
    have := frame_by sw.pg (GivenOk.nothing _) _ (run22a F h sz b o c) trivial (by rfl) rfl
    rw [List.take_zero, AB_nil]
    exact this
/-- Write of a slice by its place, told -/
def F22a (A : List Int → HS → HS) (f : FuncId) (args : List Value) (s : St) : Option Inst := if f == 35 then match args with
  | [.pointer (some ⟨p, 0, none⟩), .slice (some ⟨b, o, some 1000⟩) n c] => match s.heap.get p with
    | some (.cells (.lit l) _) => match s.heap.get 0 with
      | some (.fam F) => match F 1000 b with
        | .ints .u8 D => if okH l = true then
          some ⟨[(0, 0), (p, 0)], 1, [some (.fam F), some (.cells (.lit l) 77)], [.pointer (some ⟨1, 0, none⟩), .slice (some ⟨b, o, some 1000⟩) n c], .int .i64 0,
            some (.fam F) :: some (objH (A ((D.drop o).take n) (hOf l)) (IntKind.i64.wrap (intAt l 70 + (n : Int)))) :: nn 6, A = AB ∧ 0 ≤ intAt l 64 ∧ intAt l 64 < 64 ∧ n = ((D.drop o).take n).length ∧ n ≤ c⟩
          else none
        | _ => none
      | _ => none
    | _ => none
  | _ => none else none
theorem F22a_ok (A : List Int → HS → HS) (f : FuncId) (args : List Value) (s : St) (i : Inst) (h : F22a A f args s = some i) : Fits s i args ∧ (i.ask → CallOk Try.prog f i.args i.s0 i.val i.s1) := by
  unfold F22a at h
  split at h
  · rename_i hf
    have hf' : f = 35 := by simpa using hf
    subst hf'
    split at h
    · rename_i p b o n c
      split at h
      · rename_i l tp hp
        split at h
        · rename_i F hF
          split at h
          · rename_i D hD
            split at h
            · rename_i hok
              cases h
              have hl := okH_eq hok
              refine ⟨⟨rfl, fun j pp ob h1 h2 => ?_⟩, fun ha => ?_⟩
              · rcases j with _ | _ | j
                · simp only [List.getElem?_cons_zero, Option.some.injEq] at h1
                  subst h1
                  simp only [List.getElem?_cons_zero, Option.some.injEq] at h2
                  subst h2
                  exact ⟨_, hF, fun _ _ _ _ hx => hx⟩
                · simp only [Nat.zero_add, List.getElem?_cons_succ, List.getElem?_cons_zero, Option.some.injEq] at h1
                  subst h1
                  simp only [Nat.zero_add, List.getElem?_cons_succ, List.getElem?_cons_zero, Option.some.injEq] at h2
                  subst h2
                  exact ⟨_, hp, fit_flat (fun x v hx => by rw [Nat.zero_add]; exact hx) (by rw [hl]; exact cH_flat _ _)⟩
                · simp at h1
              · obtain ⟨rfl, q1, q2, q3, q4⟩ := ha
                have := wra F D b o n c (hOf l) (intAt l 70) hD q1 q2 q3 q4
                unfold objH at this
                rw [← hl] at this
                exact this
            · cases h
          · cases h
        · cases h
      · cases h
    · cases h
  · cases h
end
end na
end Go.Proofs.Ytphiebmgeiekaaa
namespace Go.Proofs.Ytphiebmgeiekaaa
open Go.ChangeShapes Go.WideShapes Go.ChangeAt Go.RowKit Go.Cln
namespace ka
open hc hx hy hz tb tc td ha hd
set_option linter.unusedVariables false
noncomputable section
def wa (D : List Int) (o n : Nat) : List Int := (D.drop o).take n
theorem blk9 (F : Nat → Nat → Cells) (D : List Int) (b o n c : Nat) (hF : F 1000 b = .ints .u8 D) (hB : Byt (wa D o n)) (h2 : n = (wa D o n).length) (h3 : n ≤ c) (h4 : n ≤ 1048576) :
    CallOk Try.prog 13 [.slice (some ⟨b, o, some 1000⟩) n c] (smSt 1 [some (.fam F)] []) (.tuple #[bV (kb (wa D o n)), .int .i64 0]) (smSt 1 (some (.fam F) :: ha.nn 33) []) := by
  by_cases h0 : n = 0
  · subst h0
    have e : wa D o 0 = [] := List.take_zero
    rw [e, kb_nil]
    have := frame_by sw.pg (GivenOk.nothing _) _ (run9a F b o c) trivial (by rfl) rfl
    exact this.pad 29 (by simp [ha.nn]) (by simp) (by simp [ha.nn])
  · refine CallOk.abs (j := 0) (t := 5) (k := .u8) (L := wa D o n) (Nat.le_refl _) (by simp) (by simp) (by simp [ha.nn]) rfl rfl (fun x y hy => ?_) h2 rfl rfl ?_ (by rfl) ?_ fun hn => absurd hn h0
    · rw [hF]
      unfold wa at hy
      rw [List.getElem?_take] at hy
      split at hy
      · rw [List.getElem?_drop] at hy
        simp only [Cells.get, hy]; rfl
      · cases hy
    · rfl
    · exact block9 (wa D o n) n c hB h2 (by omega) h3 h4
theorem blk11 (F : Nat → Nat → Cells) (D : List Int) (b o n c : Nat) (hF : F 1000 b = .ints .u8 D) (h2 : n = (wa D o n).length) (h4 : n ≤ 1048576) :
    CallOk Try.prog 19 [.slice (some ⟨b, o, some 1000⟩) n c] (smSt 1 [some (.fam F)] []) (bV (kb (wa D o n))) (smSt 1 (some (.fam F) :: ha.nn 28) []) := by
  by_cases h0 : n = 0
  · subst h0
    have e : wa D o 0 = [] := List.take_zero
    rw [e, kb_nil]
    have := frame_by sw.pg (GivenOk.nothing _) _ (run11a F b o c) trivial (by rfl) rfl
    exact this.pad 26 (by simp [ha.nn]) (by simp) (by simp [ha.nn])
  · refine CallOk.abs (j := 0) (t := 5) (k := .u8) (L := wa D o n) (Nat.le_refl _) (by simp) (by simp) (by simp [ha.nn]) rfl rfl (fun x y hy => ?_) h2 rfl rfl ?_ (by rfl) ?_ fun hn => absurd hn h0
    · rw [hF]
      unfold wa at hy
      rw [List.getElem?_take] at hy
      split at hy
      · rw [List.getElem?_drop] at hy
        simp only [Cells.get, hy]; rfl
      · cases hy
    · rfl
    · exact block11 (wa D o n) n c h2 (by omega) h4
/-- both Blocks of a key by its place, told -/
def FKa (KF : KT') (f : FuncId) (args : List Value) (s : St) : Option Inst := if f == 13 then match args with
  | [.slice (some ⟨b, o, some 1000⟩) n c] => match s.heap.get 0 with
    | some (.fam F) => match F 1000 b with
      | .ints .u8 D => some ⟨[(0, 0)], 1, [some (.fam F)], [.slice (some ⟨b, o, some 1000⟩) n c], .tuple #[bV (KF (wa D o n)), .int .i64 0], some (.fam F) :: ha.nn 33, KF = kb ∧ Byt (wa D o n) ∧ n = (wa D o n).length ∧ n ≤ c ∧ n ≤ 1048576⟩
      | _ => none
    | _ => none
  | _ => none else if f == 19 then match args with
  | [.slice (some ⟨b, o, some 1000⟩) n c] => match s.heap.get 0 with
    | some (.fam F) => match F 1000 b with
      | .ints .u8 D => some ⟨[(0, 0)], 1, [some (.fam F)], [.slice (some ⟨b, o, some 1000⟩) n c], bV (KF (wa D o n)), some (.fam F) :: ha.nn 28, KF = kb ∧ n = (wa D o n).length ∧ n ≤ 1048576⟩
      | _ => none
    | _ => none
  | _ => none else none
theorem FKa_ok (KF : KT') (f : FuncId) (args : List Value) (s : St) (i : Inst) (h : FKa KF f args s = some i) : Fits s i args ∧ (i.ask → CallOk Try.prog f i.args i.s0 i.val i.s1) := by
  unfold FKa at h
  split at h
  · rename_i hf
    have hf' : f = 13 := by simpa using hf
    subst hf'
    split at h
    · rename_i b o n c
      split at h
      · rename_i F hF
        split at h
        · rename_i D hD
          cases h
          refine ⟨⟨rfl, fun j pp ob h1 h2 => ?_⟩, fun ha => ?_⟩
          · rcases j with _ | j
            · simp only [List.getElem?_cons_zero, Option.some.injEq] at h1
              subst h1
              simp only [List.getElem?_cons_zero, Option.some.injEq] at h2
              subst h2
              exact ⟨_, hF, fun _ _ _ _ hx => hx⟩
            · simp at h1
          · obtain ⟨rfl, q0, q1, q2, q3⟩ := ha
            exact blk9 F D b o n c hD q0 q1 q2 q3
        · cases h
      · cases h
    · cases h
  · split at h
    · rename_i hf
      have hf' : f = 19 := by simpa using hf
      subst hf'
      split at h
      · rename_i b o n c
        split at h
        · rename_i F hF
          split at h
          · rename_i D hD
            cases h
            refine ⟨⟨rfl, fun j pp ob h1 h2 => ?_⟩, fun ha => ?_⟩
            · rcases j with _ | j
              · simp only [List.getElem?_cons_zero, Option.some.injEq] at h1
                subst h1
                simp only [List.getElem?_cons_zero, Option.some.injEq] at h2
                subst h2
                exact ⟨_, hF, fun _ _ _ _ hx => hx⟩
              · simp at h1
            · obtain ⟨rfl, q1, q2⟩ := ha
              exact blk11 F D b o n c hD q1 q2
          · cases h
        · cases h
      · cases h
    · cases h
/-- all that is told in a tag -/
def FTa (KF : KT') (D : DT) (A : AT) (E : ET) (f : FuncId) (args : List Value) (s : St) : Option Inst := match na.F22a A f args s with
  | some i => some i
  | none => match FKa KF f args s with
    | some i => some i
    | none => match hz.FH A E f args s with
      | some i => some i
      | none => match tc.FD D f args s with
        | some i => some i
        | none => FL A D f args s
theorem FTa_ok (KF : KT') (D : DT) (A : AT) (E : ET) (f : FuncId) (args : List Value) (s : St) (i : Inst) (h : FTa KF D A E f args s = some i) : Fits s i args ∧ (i.ask → CallOk Try.prog f i.args i.s0 i.val i.s1) := by
  unfold FTa at h
  split at h
  · rename_i j h1
    cases h; exact na.F22a_ok A f args s _ h1
  · split at h
    · rename_i j h1
      cases h; exact FKa_ok KF f args s _ h1
    · split at h
      · rename_i j h1
        cases h; exact hz.FH_ok A E f args s _ h1
      · split at h
        · rename_i j h1
          cases h; exact tc.FD_ok D f args s _ h1
        · exact FL_ok A D f args s _ h
def KTa (KF : KT') (XF : XT) (D : DT) (A : AT) (E : ET) : Given := { Given.frames (Given.calls (FP XF)) (FTa KF D A E) with fits := true }
theorem KTa_ok (KF : KT') (D : DT) (A : AT) (E : ET) : GivenOk Try.prog (KTa KF (xorI .u8) D A E) := frames_fits (FP_ok.frames (FTa_ok KF D A E)) true
end
end ka
end Go.Proofs.Ytphiebmgeiekaaa
namespace Go.Proofs.Ytphiebmgeiekaaa
open Go.ChangeShapes Go.WideShapes Go.ChangeAt Go.RowKit Go.Cln
namespace ka
open hc hx hy hz tb tc td ha hd
set_option linter.unusedVariables false
noncomputable section
def S (P n c : Nat) : Value := .slice (some ⟨P, 0, some 1001⟩) n c
def ix (k : Nat) : Nat := 0 + k * 1
/-- the key's place, length, room -/
structure KY where
  Q : Nat
  n : Nat
  c : Nat
abbrev kv (y : KY) : Value := .slice (some ⟨y.Q, 0, some 1000⟩) y.n y.c
def JJ (n : Nat) : List Value := List.replicate n junk
def UU (n : Nat) : List Value := List.replicate n undef
/-- the head of Tag's loop: B is the key's block -/
def H8 (x : Nest) (y : KY) (B : List Int) (P m d : Nat) (h : HS) (sz : Int) : Nat → Option Ob := fun i => match i with
  | 0 => some (.fam x.F)
  | 1 => some (.cells (.lit (List.replicate 20 (.int .u8 0))) 26)
  | 39 => some (objH h sz)
  | 49 => some (.cells (.lit (.pointer (some ⟨39, 0, none⟩) :: rowV .u8 64 (ch B))) 59)
  | 50 => some (.cells (.lit [.pointer (some ⟨49, 0, none⟩)]) 40)
  | 51 => some (.cells (.lit [S P m d]) 23)
  | 52 => some .marks
  | 53 => some (.loop ⟨.ready, none, [kv y, S P m d, undef, undef, P0 1 0, .int .i64 0, P0 50 0, .int .i64 0, undef, .tuple #[P0 49 0, .int .i64 0], kv y, .tuple #[P0 49 0, .int .i64 0], P0 49 0, .int .i64 0, .int .i64 0, .bool false, undef, undef, S P m d, .func (.func 29) #[] #[P0 51 0]] ++ UU 8, #[20], (rngAt Try.prog 8 0).2.1, (rngAt Try.prog 8 0).2.2, 52⟩)
  | _ => none
def tS (t4 : Value) (T : List Value) (x : Nest) (y : KY) (B : List Int) (P m d : Nat) (h : HS) (sz : Int) (k : Nat) : St :=
  ⟨[.func (.yield 53) #[] #[], P0 51 0, undef, undef, t4, S P m d, .int .i64 (nI m), .int .i64 (nI k)] ++ T, [], Tr.rebuild (H8 x y B P m d h sz) 54, 54, 1, [], fun _ => false, True, []⟩
abbrev ST := (x : Nest) → (y : KY) → (B : List Int) → (P m d : Nat) → (h : HS) → (sz : Int) → (k : Nat) → St
def TE : ST := tS undef (UU 13)
def TN : ST := tS junk (JJ 7 ++ (UU 4 ++ JJ 2))
def TY : ST := tS junk (JJ 13)
def body8 : Code := loopB Try.prog 29 0
def len0 (x : Nest) (P k : Nat) : Nat := x.m P (ix k)
def nh (A : AT) (x : Nest) (P : Nat) (h : HS) (sz : Int) (k : Nat) : HS := A (x.row P (ix k)) (hOf (cH h sz))
def nz (x : Nest) (P : Nat) (h : HS) (sz : Int) (k : Nat) : Int := IntKind.i64.wrap (intAt (cH h sz) 70 + ((x.m P (ix k) : Nat) : Int))
def go8 (KF : KT') (D : DT) (A : AT) (E : ET) (s : St) (rd : Option Nat) (o : List (Option Bool)) : Option (Exit × St) := (mk Try.prog (KTa KF (xorI .u8) D A E) 200).code 29 rd body8 { s with obl := True, orc := o }
end
end ka
end Go.Proofs.Ytphiebmgeiekaaa
namespace Go.Proofs.Ytphiebmgeiekaaa
open Go.ChangeShapes Go.WideShapes Go.ChangeAt Go.RowKit Go.Cln
namespace ka
open hc hx hy hz tb tc td ha hd
set_option linter.unusedVariables false
noncomputable section
def oZ : List (Option Bool) := [some true, some true, some true, some false] ++ List.replicate 5 none ++ [some true]
def oP : List (Option Bool) := [some true, some true, some true, some true] ++ List.replicate 13 none ++ [some true]
def pH (x : Nest) (P m k : Nat) : Prop := ((True ∧ decide (nI k < nI m) = true) ∧ (0 ≤ nI k ∧ nI k < nI m)) ∧ ix k < x.N P
def fk (k : Nat) : Prop := IntKind.i64.wrap (nI k + 1) = nI k + 1
def pZ (x : Nest) (P m k : Nat) : Prop := (pH x P m k ∧ decide (nI (len0 x P k) > 0) = false) ∧ fk k
def pP (A : AT) (x : Nest) (P m : Nat) (h : HS) (sz : Int) (k : Nat) : Prop := ((pH x P m k ∧ decide (nI (len0 x P k) > 0) = true) ∧
  (A = AB ∧ 0 ≤ intAt (cH h sz) 64 ∧ intAt (cH h sz) 64 < 64 ∧ x.m P (ix k) = (x.row P (ix k)).length ∧ x.m P (ix k) ≤ x.c P (ix k))) ∧ fk k
def see (r : Option (Exit × St)) (t : St) : Option (Exit × Prop × Seen) := r.map fun r => (r.1, r.2.obl, seenIn r.2 t [])
def runZ (s t : ST) : Prop := ∀ (KF : KT') (D : DT) (A : AT) (E : ET) (x : Nest) (y : KY) (B : List Int) (P m d : Nat) (h : HS) (sz : Int) (k : Nat) (rd : Option Nat),
  see (go8 KF D A E (s x y B P m d h sz k) rd oZ) (t x y B P m d h sz (k + 1)) = some (.normal, pZ x P m k, seenAs (t x y B P m d h sz (k + 1)) [] 54)
def runP (s t : ST) : Prop := ∀ (KF : KT') (D : DT) (A : AT) (E : ET) (x : Nest) (y : KY) (B : List Int) (P m d : Nat) (h : HS) (sz : Int) (k : Nat) (rd : Option Nat),
  see (go8 KF D A E (s x y B P m d h sz k) rd oP) (t x y B P m d (nh A x P h sz k) (nz x P h sz k) (k + 1)) = some (.normal, pP A x P m h sz k, seenAs (t x y B P m d (nh A x P h sz k) (nz x P h sz k) (k + 1)) [] 61)
def runX (s t : ST) : Prop := ∀ (KF : KT') (D : DT) (A : AT) (E : ET) (x : Nest) (y : KY) (B : List Int) (P m d : Nat) (h : HS) (sz : Int) (k : Nat) (rd : Option Nat),
  see (go8 KF D A E (s x y B P m d h sz k) rd [some false]) (t x y B P m d h sz k) = some (.exit 0, True ∧ decide (nI k < nI m) = false, seenAs (t x y B P m d h sz k) [] 54)
def TX : ST := tS undef (JJ 1 ++ UU 12)
theorem zEN : runZ TE TN := by intro KF D A E x y B P m d h sz k rd; kernel_rfl
theorem zNN : runZ TN TN := by intro KF D A E x y B P m d h sz k rd; kernel_rfl
theorem zYN : runZ TY TN := by intro KF D A E x y B P m d h sz k rd; kernel_rfl
theorem pEY : runP TE TY := by intro KF D A E x y B P m d h sz k rd; kernel_rfl
theorem pNY : runP TN TY := by intro KF D A E x y B P m d h sz k rd; kernel_rfl
theorem pYY : runP TY TY := by intro KF D A E x y B P m d h sz k rd; kernel_rfl
theorem xEX : runX TE TX := by intro KF D A E x y B P m d h sz k rd; kernel_rfl
theorem xNN : runX TN TN := by intro KF D A E x y B P m d h sz k rd; kernel_rfl
theorem xYY : runX TY TY := by intro KF D A E x y B P m d h sz k rd; kernel_rfl
end
end ka
end Go.Proofs.Ytphiebmgeiekaaa
namespace Go.Proofs.Ytphiebmgeiekaaa
open Go.ChangeShapes Go.WideShapes Go.ChangeAt Go.RowKit Go.Cln
namespace ka
open hc hx hy hz tb tc td ha hd
set_option linter.unusedVariables false
noncomputable section
def good (t : ST) (n1 : Nat) : Prop := ∀ (x : Nest) (y : KY) (B : List Int) (P m d : Nat) (h0 h : HS) (z0 sz : Int) (k : Nat), picOk (TE x y B P m d h0 z0 0) (t x y B P m d h sz k) [] n1 = true
structure OkT (t : ST) : Prop where
  g54 : good t 54
  g61 : good t 61
  h : ∀ (x : Nest) (y : KY) (B : List Int) (P m d : Nat) (h : HS) (sz : Int) (k : Nat), (t x y B P m d h sz k).heap = Tr.rebuild (H8 x y B P m d h sz) (t x y B P m d h sz k).next
  n : ∀ (x : Nest) (y : KY) (B : List Int) (P m d : Nat) (h : HS) (sz : Int) (k : Nat), (t x y B P m d h sz k).next = 54
theorem okE : OkT TE := ⟨by intro x y B P m d h0 h z0 sz k; kernel_rfl, by intro x y B P m d h0 h z0 sz k; kernel_rfl, by intro x y B P m d h sz k; rfl, by intro x y B P m d h sz k; rfl⟩
theorem okN : OkT TN := ⟨by intro x y B P m d h0 h z0 sz k; kernel_rfl, by intro x y B P m d h0 h z0 sz k; kernel_rfl, by intro x y B P m d h sz k; rfl, by intro x y B P m d h sz k; rfl⟩
theorem okY : OkT TY := ⟨by intro x y B P m d h0 h z0 sz k; kernel_rfl, by intro x y B P m d h0 h z0 sz k; kernel_rfl, by intro x y B P m d h sz k; rfl, by intro x y B P m d h sz k; rfl⟩
theorem okX : OkT TX := ⟨by intro x y B P m d h0 h z0 sz k; kernel_rfl, by intro x y B P m d h0 h z0 sz k; kernel_rfl, by intro x y B P m d h sz k; rfl, by intro x y B P m d h sz k; rfl⟩
theorem stZ {s t : ST} (hr : runZ s t) (hs : OkT s) (ht : OkT t) (D : DT) (E : ET) {x : Nest} {y : KY} {B : List Int} {P m d : Nat} {h0 h : HS} {z0 sz : Int} {k : Nat} (rd : Option Nat) (hp : pZ x P m k) :
    Step Try.prog rd (TE x y B P m d h0 z0 0) body8 (s x y B P m d h sz k) (fun e u => e = .normal ∧ u = t x y B P m d h sz (k + 1)) :=
  Step.std sw.pg (KTa_ok kb D AB E) (hr kb D AB E x y B P m d h sz k rd) hp (by rw [hs.n]; exact Nat.le_refl 54) (ht.h ..) (ht.g54 ..)
theorem stP {s t : ST} (hr : runP s t) (hs : OkT s) (ht : OkT t) (D : DT) (E : ET) {x : Nest} {y : KY} {B : List Int} {P m d : Nat} {h0 h : HS} {z0 sz : Int} {k : Nat} (rd : Option Nat) (hp : pP AB x P m h sz k) :
    Step Try.prog rd (TE x y B P m d h0 z0 0) body8 (s x y B P m d h sz k) (fun e u => e = .normal ∧ u = t x y B P m d (nh AB x P h sz k) (nz x P h sz k) (k + 1)) :=
  Step.std sw.pg (KTa_ok kb D AB E) (hr kb D AB E x y B P m d h sz k rd) hp (by rw [hs.n]; exact Nat.le_refl 54) (ht.h ..) (ht.g61 ..)
theorem stX {s t : ST} (hr : runX s t) (hs : OkT s) (ht : OkT t) (D : DT) (E : ET) {x : Nest} {y : KY} {B : List Int} {P m d : Nat} {h0 h : HS} {z0 sz : Int} {k : Nat} (rd : Option Nat) (hk : m ≤ k) :
    Step Try.prog rd (TE x y B P m d h0 z0 0) body8 (s x y B P m d h sz k) (fun e u => e = .exit 0 ∧ u = t x y B P m d h sz k) :=
  Step.std sw.pg (KTa_ok kb D AB E) (hr kb D AB E x y B P m d h sz k rd) ⟨trivial, by simp only [nI, decide_eq_false_iff_not]; omega⟩ (by rw [hs.n]; exact Nat.le_refl 54) (ht.h ..) (ht.g54 ..)
theorem ix_eq (k : Nat) : ix k = k := by unfold ix; omega
/-- the hash behind so many parts -/
def hT (x : Nest) (P : Nat) (h0 : HS) (z0 : Int) : Nat → HS × Int
  | 0 => (h0, z0)
  | k + 1 => if x.m P k = 0 then hT x P h0 z0 k else (nh AB x P (hT x P h0 z0 k).1 (hT x P h0 z0 k).2 k, nz x P (hT x P h0 z0 k).1 (hT x P h0 z0 k).2 k)
theorem hT_sem {x : Nest} {P : Nat} (h : x.Ok P) {m : Nat} (hm : m ≤ x.N P) {pre : List Int} (hpre : Byt pre) {h0 : HS} {z0 : Int} (hS : SemH h0 pre) (hz : z0 = (pre.length : Int)) (hb : pre.length + (x.cat P m).length ≤ 1000000) :
    ∀ k, k ≤ m → SemH (hT x P h0 z0 k).1 (pre ++ x.cat P k) ∧ (hT x P h0 z0 k).2 = ((pre ++ x.cat P k).length : Int)
  | 0, _ => by
    simp only [hT, Nest.cat, List.append_nil]
    exact ⟨hS, hz⟩
  | k + 1, hk => by
    obtain ⟨k1, k2⟩ := hT_sem h hm hpre hS hz hb k (by omega)
    have hr : (x.row P k).length = x.m P k := h.len k (by omega)
    have hlen := Nest.cat_mono (x := x) (P := P) m (k + 1) hk
    have e : x.cat P (k + 1) = x.cat P k ++ x.row P k := rfl
    have hbk : Byt (pre ++ x.cat P k) := byt_app hpre (Nest.cat_byte h k (by omega))
    by_cases hm0 : x.m P k = 0
    · have er : x.row P k = [] := List.eq_nil_of_length_eq_zero (by omega)
      rw [e, er, List.append_nil]
      simp only [hT, if_pos hm0]
      exact ⟨k1, k2⟩
    · simp only [hT, if_neg hm0]
      rw [e] at hlen ⊢
      rw [← List.append_assoc]
      refine ⟨?_, ?_⟩
      · unfold nh
        rw [ix_eq]
        exact SemH.AB (k1.cells _) hbk (h.byte k (by omega))
      · show nz x P _ _ k = _
        unfold nz
        rw [ix_eq, show intAt (cH (hT x P h0 z0 k).1 (hT x P h0 z0 k).2) 70 = (hT x P h0 z0 k).2 from rfl, k2, IntKind.wrap_i64]
        simp only [List.length_append] at hlen ⊢
        omega
def tT (x : Nest) (P : Nat) : Nat → ST
  | 0 => TE
  | k + 1 => if x.m P k = 0 then TN else TY
theorem okT (x : Nest) (P k : Nat) : OkT (tT x P k) := by
  cases k with
  | zero => exact okE
  | succ k => simp only [tT]; split; exact okN; exact okY
theorem runZT (x : Nest) (P k : Nat) : runZ (tT x P k) TN := by
  cases k with
  | zero => exact zEN
  | succ k => simp only [tT]; split; exact zNN; exact zYN
theorem runPT (x : Nest) (P k : Nat) : runP (tT x P k) TY := by
  cases k with
  | zero => exact pEY
  | succ k => simp only [tT]; split; exact pNY; exact pYY
theorem stepT (D : DT) (E : ET) {x : Nest} {y : KY} {B : List Int} {P m d : Nat} (h : x.Ok P) (hm : m ≤ x.N P) (h30 : m ≤ 30) {pre : List Int} (hpre : Byt pre) {h0 : HS} {z0 : Int} (hS : SemH h0 pre) (hz : z0 = (pre.length : Int)) (hb : pre.length + (x.cat P m).length ≤ 1000000) {k : Nat} (hk : k < m) (rd : Option Nat) :
    Step Try.prog rd (TE x y B P m d h0 z0 0) body8 (tT x P k x y B P m d (hT x P h0 z0 k).1 (hT x P h0 z0 k).2 k) (fun e u => e = .normal ∧ u = tT x P (k + 1) x y B P m d (hT x P h0 z0 (k + 1)).1 (hT x P h0 z0 (k + 1)).2 (k + 1)) := by
  have hH : pH x P m k := by
    unfold pH; rw [ix_eq]; simp only [nI, decide_eq_true_eq]
    exact ⟨⟨⟨trivial, by omega⟩, by omega⟩, by omega⟩
  have hf : fk k := by unfold fk; simp only [nI]; rw [IntKind.wrap_i64]; omega
  obtain ⟨k1, k2⟩ := hT_sem h hm hpre hS hz hb k (by omega)
  by_cases hz0 : x.m P k = 0
  · simp only [tT, hT, if_pos hz0]
    exact stZ (runZT x P k) (okT x P k) okN D E rd ⟨⟨hH, by unfold len0; rw [ix_eq, hz0]; simp [nI]⟩, hf⟩
  · simp only [tT, hT, if_neg hz0]
    refine stP (runPT x P k) (okT x P k) okY D E rd ⟨⟨⟨hH, by unfold len0; rw [ix_eq]; simp only [nI, decide_eq_true_eq]; omega⟩, rfl, ?_, ?_, ?_, ?_⟩, hf⟩
    · rw [show intAt (cH (hT x P h0 z0 k).1 (hT x P h0 z0 k).2) 64 = (hT x P h0 z0 k).1.rn from rfl, k1.rn]; omega
    · rw [show intAt (cH (hT x P h0 z0 k).1 (hT x P h0 z0 k).2) 64 = (hT x P h0 z0 k).1.rn from rfl, k1.rn]; omega
    · rw [ix_eq]; exact (h.len k (by omega)).symm
    · rw [ix_eq]; exact h.room k (by omega)
def endT (x : Nest) (P m : Nat) : ST := if m = 0 then TX else tT x P m
theorem loopT (D : DT) (E : ET) {x : Nest} {y : KY} {B : List Int} {P m d : Nat} (h : x.Ok P) (hm : m ≤ x.N P) (h30 : m ≤ 30) {pre : List Int} (hpre : Byt pre) {h0 : HS} {z0 : Int} (hS : SemH h0 pre) (hz : z0 = (pre.length : Int)) (hb : pre.length + (x.cat P m).length ≤ 1000000) (rd : Option Nat) :
    CodeOk Try.prog rd (.loop body8) (TE x y B P m d h0 z0 0) (.exit 0) (endT x P m x y B P m d (hT x P h0 z0 m).1 (hT x P h0 z0 m).2 m) := by
  refine CodeOk.of_step (Step.loop (fun g t => ∃ j, j ≤ m ∧ g = m - j ∧ t = tT x P j x y B P m d (hT x P h0 z0 j).1 (hT x P h0 z0 j).2 j) ?_ m _ ⟨0, by omega, by omega, rfl⟩)
  rintro g t ⟨j, g2, rfl, rfl⟩
  by_cases hj : j = m
  · subst hj
    have key : Step Try.prog rd (TE x y B P j d h0 z0 0) body8 (tT x P j x y B P j d (hT x P h0 z0 j).1 (hT x P h0 z0 j).2 j) (fun e u => e = .exit 0 ∧ u = endT x P j x y B P j d (hT x P h0 z0 j).1 (hT x P h0 z0 j).2 j) := by
      cases j with
      | zero => exact stX xEX okE okX D E rd (Nat.le_refl _)
      | succ j =>
        simp only [endT, if_neg (Nat.succ_ne_zero j), tT]
        split
        · exact stX xNN okN okN D E rd (Nat.le_refl _)
        · exact stX xYY okY okY D E rd (Nat.le_refl _)
    refine key.mono ?_
    rintro e' t ⟨rfl, rfl⟩
    exact .inr ⟨(by intro x; cases x), rfl, rfl⟩
  · refine (stepT D E h hm h30 hpre hS hz hb (by omega) rd).mono ?_
    rintro e' t ⟨rfl, rfl⟩
    exact .inl ⟨rfl, m - (j + 1), by omega, j + 1, by omega, rfl, rfl⟩
end
end ka
end Go.Proofs.Ytphiebmgeiekaaa
namespace Go.Proofs.Ytphiebmgeiekaaa
open Go.ChangeShapes Go.WideShapes Go.ChangeAt Go.RowKit Go.Cln
namespace ka
open hc hx hy hz tb tc td ha hd
set_option linter.unusedVariables false
noncomputable section
def ask8 (t : St) (f : FuncId) (c : Code) (s : St) : Option Ask2 := if f == 29 then some ⟨⟨[], [], [], [35, 36, 37, 38, 40, 41, 42]⟩, .exit 0, fun _ => t⟩ else none
def KR8 (KF : KT') (D : DT) (A : AT) (E : ET) (t : St) : Given := Given.asking2 (KTa KF (xorI .u8) D A E) Try.prog (ask8 t)
theorem KR8_ok (D : DT) (E : ET) (t : St) : GivenOk Try.prog (KR8 kb D AB E t) := (KTa_ok kb D AB E).asking2 _
def call8 (KF : KT') (D : DT) (A : AT) (E : ET) (x : Nest) (y : KY) (P m d : Nat) (t : St) : Option (Value × St) := (mk Try.prog (KR8 KF D A E t) 300).call 8 [kv y, S P m d] (smSt 1 [some (.fam x.F)] [])
def WK (x : Nest) (y : KY) : List Int := wa (x.D y.Q) 0 y.n
end
end ka
end Go.Proofs.Ytphiebmgeiekaaa
namespace Go.Proofs.Ytphiebmgeiekaaa
open Go.ChangeShapes Go.WideShapes Go.ChangeAt Go.RowKit Go.Cln
namespace ka
open hc hx hy hz tb tc td ha hd
set_option linter.unusedVariables false
noncomputable section
def b9a (KF : KT') (x : Nest) (y : KY) : Prop := KF = kb ∧ Byt (WK x y) ∧ y.n = (WK x y).length ∧ y.n ≤ y.c ∧ y.n ≤ 1048576
def H0 (A : AT) (B : List Int) : HS := A (xl B 54) (hOf l0)
def z0 : Int := IntKind.i64.wrap (intAt l0 70 + ((64 : Nat) : Int))
def p8 (KF : KT') (A : AT) (E : ET) (x : Nest) (y : KY) (P m d : Nat) (t : St) (l : List Value) : Prop :=
  ((((((True ∧ b9a KF x y) ∧ w36 A l0 (xl (KF (WK x y)) 54) 64 64) ∧ ∀ rd, CodeOk Try.prog rd (.loop body8) (TE x y (KF (WK x y)) P m d (H0 A (KF (WK x y))) z0 0) (.exit 0) t) ∧ s28 E l) ∧
    w36 A l0 (xl (KF (WK x y)) 92) 64 64) ∧ w36 A (q3 KF A (WK x y)) (ot1 (v28 E l)) 20 20) ∧ s28 E (q4 KF A (WK x y) (ot1 (v28 E l)))
def hZ8 (x : Nest) : List (Option Ob) := some (.fam x.F) :: ha.nn 108
def run8 (u : ST) : Prop := ∀ (KF : KT') (D : DT) (A : AT) (E : ET) (x : Nest) (y : KY) (P m d : Nat) (h : HS) (sz : Int) (k : Nat),
  (call8 KF D A E x y P m d (u x y (KF (WK x y)) P m d h sz k)).map (fun r => (r.1, r.2.obl, r.2.next, keepL (true :: List.replicate 108 false) r.2.heap.get 0)) =
    some (y12 A E KF (WK x y) (cH h sz), p8 KF A E x y P m d (u x y (KF (WK x y)) P m d h sz k) (cH h sz), (hZ8 x).length, hZ8 x)
theorem rX8 : run8 TX := by intro KF D A E x y P m d h sz k; kernel_rfl
theorem rN8 : run8 TN := by intro KF D A E x y P m d h sz k; kernel_rfl
theorem rY8 : run8 TY := by intro KF D A E x y P m d h sz k; kernel_rfl
theorem r8 (x : Nest) (P m : Nat) : run8 (endT x P m) := by
  unfold endT
  cases m with
  | zero => exact rX8
  | succ m =>
    rw [if_neg (Nat.succ_ne_zero m)]
    simp only [tT]; split
    · exact rN8
    · exact rY8
theorem z0_eq : z0 = 64 := by decide
theorem tag8 {x : Nest} {y : KY} {P m d : Nat} (h : x.Ok P) (hm : m ≤ x.N P) (h30 : m ≤ 30) (hK : Byt (WK x y)) (hn : y.n = (WK x y).length) (hc : y.n ≤ y.c) (h1 : y.n ≤ 1000) (hb : (x.cat P m).length ≤ 9000) :
    CallOk Try.prog 8 [kv y, S P m d] (smSt 1 [some (.fam x.F)] []) (tgV (WK x y) (x.cat P m)) (smSt 1 (hZ8 x) []) := by
  have hx := xl_byt (kb (WK x y)) 54
  have hl := xl_len (kb (WK x y)) 54
  have hS : SemH (H0 AB (kb (WK x y))) (xl (kb (WK x y)) 54) := SemH.AB SemH.zero (fun x hx => by cases hx) hx
  have hz : z0 = ((xl (kb (WK x y)) 54).length : Int) := by rw [hl, z0_eq]; rfl
  have hbb : (xl (kb (WK x y)) 54).length + (x.cat P m).length ≤ 1000000 := by rw [hl]; omega
  obtain ⟨k1, k2⟩ := hT_sem h hm hx hS hz hbb m (Nat.le_refl _)
  have hh : Hs (cH (hT x P (H0 AB (kb (WK x y))) z0 m).1 (hT x P (H0 AB (kb (WK x y))) z0 m).2) (xl (kb (WK x y)) 54 ++ x.cat P m) :=
    ⟨k1.cells _, k2, by rw [show intAt (cH (hT x P (H0 AB (kb (WK x y))) z0 m).1 (hT x P (H0 AB (kb (WK x y))) z0 m).2) 64 = (hT x P (H0 AB (kb (WK x y))) z0 m).1.rn from rfl, k1.rn], by rw [List.length_append]; omega, byt_app hx (Nest.cat_byte h m hm)⟩
  have hp : p8 kb AB DS x y P m d (endT x P m x y (kb (WK x y)) P m d (hT x P (H0 AB (kb (WK x y))) z0 m).1 (hT x P (H0 AB (kb (WK x y))) z0 m).2 m) (cH (hT x P (H0 AB (kb (WK x y))) z0 m).1 (hT x P (H0 AB (kb (WK x y))) z0 m).2) :=
    rest_ok hh ⟨⟨⟨trivial, rfl, hK, hn, hc, by omega⟩, Hs.zero.w (xl_len _ _).symm (Nat.le_refl _)⟩, fun rd => loopT shaN DS h hm h30 hx hS hz hbb rd⟩
  have := frame_by sw.pg (KR8_ok shaN DS _) _ (r8 x P m kb shaN AB DS x y P m d _ _ m) hp (by rfl) rfl
  rw [tag_eq hh] at this
  exact this
end
end ka
end Go.Proofs.Ytphiebmgeiekaaa
