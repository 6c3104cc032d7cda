/- Read off the code by the clean reading. -/
import Derived.Test.YteknepfcbpoooabClnNb
import Derived.Test.YteknepfcbpoooabClnSb
import Derived.Test.YteknepfcbpoooabClnQd
set_option linter.unusedVariables false
set_option linter.unusedSimpArgs false
set_option linter.deprecated false
set_option maxRecDepth 100000
namespace Go.Proofs.Yteknepfcbpoooab
open Go.ChangeShapes Go.WideShapes Go.ChangeAt Go.RowKit Go.Cln
namespace pc
open pa (S ix rawN hZ rawP)
open sd se.rr
set_option linter.unusedVariables false
noncomputable section
abbrev RT := List Int → Int
def F12 (x : Nest) (R : RT) (f : FuncId) (args : List Value) (s : St) : Option Inst := if f == 12 then match args with
  | [.slice (some ⟨P, 0, some 1001⟩) n c] => match s.heap.get 0 with
    | some (.fam F) => some ⟨[(0, 0)], 1, [some (.fam F)], [.slice (some ⟨P, 0, some 1001⟩) n c], .int .u16 (R (x.cat P n)), some (Ob.fam F) :: nones 12, R = rawN ∧ F = x.F ∧ x.Ok P ∧ n ≤ x.N P ∧ n ≤ 30 ∧ ∀ i, i < n → x.m P i ≤ 300⟩
    | _ => none
  | _ => none else none
theorem F12_ok (x : Nest) (R : RT) (f : FuncId) (args : List Value) (s : St) (i : Inst) (h : F12 x R f args s = some i) : Fits s i args ∧ (i.ask → CallOk Try.prog f i.args i.s0 i.val i.s1) := by
  unfold F12 at h
  split at h
  · rename_i hf
    have hf' : f = 12 := by simpa using hf
    subst hf'
    split at h
    · rename_i P n c
      split at h
      · rename_i F hF
        cases h
        refine ⟨⟨rfl, fun j pp ob h1 h2 => ?_⟩, fun ha => ?_⟩
        · rcases j with _ | j
          · simp only [List.getElem?_cons_zero, Option.some.injEq] at h1
            subst h1
            simp only [List.getElem?_cons_zero, Option.some.injEq] at h2
            subst h2
            exact ⟨_, hF, fun _ _ _ _ hx => hx⟩
          · simp at h1
        · obtain ⟨rfl, rfl, q1, q2, q3, q4⟩ := ha
          exact rawP q1 q2 q3 q4
      · cases h
    · cases h
  · cases h
def v1 (b : Int) : Int := IntKind.i64.wrap (0 + IntKind.i64.wrap (IntKind.i64.wrap b * 256))
theorem run1 (b : Int) (c : Nat) : ((mk Try.prog KE 100).call 13 [.slice (some ⟨0, 0, none⟩) 1 c] (smSt 1 (hB1 [b]) [])).map (fun r => (r.1, r.2.obl, r.2.next, keepL [true] r.2.heap.get 0)) =
    some (.int .u16 (IntKind.u16.wrap (sc.car (v1 b))), True ∧ (0 ≤ v1 b ∧ v1 b < 9223372036854775807), (hB1 [b]).length, hB1 [b]) := by kernel_rfl
theorem rawA (L : List Int) (n c : Nat) (hB : Byt L) (hn : n = L.length) (h2 : 1 ≤ n) (hs : n ≤ 1099511627776) :
    CallOk Try.prog 13 [.slice (some ⟨0, 0, none⟩) n c] (smSt 1 (hB1 L) []) (.int .u16 (rawN L)) (smSt 1 (hB1 L) []) := by
  by_cases h : 2 ≤ n
  · exact rawR L n c hB hn h hs
  · have h1 : n = 1 := by omega
    subst h1
    match L, hn, hB with
    | [b], _, hB =>
      have hb := hB b (by simp)
      have e : v1 b = b * 256 := by unfold v1; rw [IntKind.wrap_i64, IntKind.wrap_i64, IntKind.wrap_i64]; omega
      have hw : IntKind.u16.wrap (sc.car (b * 256)) = sc.car (b * 256) := by have := car_b (b * 256); rw [IntKind.wrap_u16]; omega
      have := frame_by sr.pg KE_ok [true] (run1 b c) ⟨trivial, by rw [e]; omega⟩ (by rfl) rfl
      rw [e, hw] at this
      exact this
/-- the document's Raw, of bytes that grew -/
def F13 (R : RT) (f : FuncId) (args : List Value) (s : St) : Option Inst := if f == 13 then match args with
  | [.slice (some ⟨b, o, some 1⟩) n c] => match s.heap.get b with
    | some (.cells (.ints .u8 l) _) => some ⟨[(b, o)], 1, hB1 ((l.drop o).take n), [.slice (some ⟨0, 0, some 1⟩) n c], .int .u16 (R ((l.drop o).take n)), hB1 ((l.drop o).take n), R = rawN ∧ Byt ((l.drop o).take n) ∧ n = ((l.drop o).take n).length ∧ 1 ≤ n ∧ n ≤ 1099511627776⟩
    | _ => none
  | _ => none else none
theorem F13_ok (R : RT) (f : FuncId) (args : List Value) (s : St) (i : Inst) (h : F13 R f args s = some i) : Fits s i args ∧ (i.ask → CallOk Try.prog f i.args i.s0 i.val i.s1) := by
  unfold F13 at h
  split at h
  · rename_i hf
    have hf' : f = 13 := by simpa using hf
    subst hf'
    split at h
    · rename_i b o n c
      split at h
      · rename_i l tb hb
        cases h
        refine ⟨⟨?_, fun j pp ob h1 h2 => ?_⟩, fun ha => ?_⟩
        · show [Value.slice (some ⟨b, o, some 1⟩) n c] = [Value.slice (some ⟨b, addO o 0, some 1⟩) n c]
          rw [addO_eq]; rfl
        · rcases j with _ | j
          · simp only [List.getElem?_cons_zero, Option.some.injEq] at h1
            subst h1
            simp only [hB1, List.getElem?_cons_zero, Option.some.injEq] at h2
            subst h2
            exact ⟨_, hb, fit_ints⟩
          · simp at h1
        · obtain ⟨rfl, q1, q2, q3, q4⟩ := ha
          exact CallOk.grow [] [] (fun c _ => rawA _ n c q1 q2 q3 q4) c
      · cases h
    · cases h
  · cases h
theorem run0 : ((mk Try.prog Given.nothing 100).call 13 [.slice none 0 0] (smSt 0 [] [])).map (fun r => (r.1, r.2.obl, r.2.next, keepL [] r.2.heap.get 0)) = some (.int .u16 0, True, ([] : List (Option Ob)).length, []) := by kernel_rfl
theorem raw0 : CallOk Try.prog 13 [.slice none 0 0] (smSt 0 [] []) (.int .u16 (rawN [])) (smSt 0 [] []) := frame_by sr.pg (GivenOk.nothing _) [] run0 trivial (by rfl) rfl
def F13n (R : RT) (f : FuncId) (args : List Value) (s : St) : Option Inst := if f == 13 then match args with
  | [.slice none 0 0] => some ⟨[], 0, [], [.slice none 0 0], .int .u16 (R []), [], R = rawN⟩
  | _ => none else none
theorem F13n_ok (R : RT) (f : FuncId) (args : List Value) (s : St) (i : Inst) (h : F13n R f args s = some i) : Fits s i args ∧ (i.ask → CallOk Try.prog f i.args i.s0 i.val i.s1) := by
  unfold F13n at h
  split at h
  · rename_i hf
    have hf' : f = 13 := by simpa using hf
    subst hf'
    split at h
    · cases h
      exact ⟨⟨rfl, fun j p ob hp ho => by simp at hp⟩, fun ha => by rw [show R = rawN from ha]; exact raw0⟩
    · cases h
  · cases h
theorem works0 : ((mk Try.prog Given.nothing 300).call 11 [] (St.start 0 .leaf [])).map (fun r => (r.1, r.2.obl)) = some (.bool true, True) := by kernel_rfl
theorem works_ok : CallOk Try.prog 11 [] (smSt 0 [] []) (.bool true) (smSt 0 [] []) := CallOk.of_below (fun W => ran sr.pg (GivenOk.nothing _) works0 trivial rfl rfl W) rfl rfl _
def F11 (f : FuncId) (args : List Value) (s : St) : Option Inst := if f == 11 then match args with
  | [] => some ⟨[], 0, [], [], .bool true, [], True⟩
  | _ => none else none
theorem F11_ok (f : FuncId) (args : List Value) (s : St) (i : Inst) (h : F11 f args s = some i) : Fits s i args ∧ (i.ask → CallOk Try.prog f i.args i.s0 i.val i.s1) := by
  unfold F11 at h
  split at h
  · rename_i hf
    have hf' : f = 11 := by simpa using hf
    subst hf'
    split at h
    · cases h
      exact ⟨⟨rfl, fun j p ob hp ho => by simp at hp⟩, fun _ => works_ok⟩
    · cases h
  · cases h
def FLw (x : Nest) (R : RT) (f : FuncId) (args : List Value) (s : St) : Option Inst := match F12 x R f args s with
  | some i => some i
  | none => match F13 R f args s with
    | some i => some i
    | none => match F13n R f args s with
      | some i => some i
      | none => F11 f args s
theorem FLw_ok (x : Nest) (R : RT) (f : FuncId) (args : List Value) (s : St) (i : Inst) (h : FLw x R f args s = some i) : Fits s i args ∧ (i.ask → CallOk Try.prog f i.args i.s0 i.val i.s1) := by
  unfold FLw at h
  split at h
  · rename_i j h1
    cases h; exact F12_ok x R f args s _ h1
  · split at h
    · rename_i j h1
      cases h; exact F13_ok R f args s _ h1
    · split at h
      · rename_i j h1
        cases h; exact F13n_ok R f args s _ h1
      · exact F11_ok f args s _ h
def KL (x : Nest) (R : RT) : Given := { Given.frames Given.nothing (FLw x R) with fits := true }
theorem KL_ok (x : Nest) (R : RT) : GivenOk Try.prog (KL x R) := frames_fits ((GivenOk.nothing _).frames (FLw_ok x R)) true
def askL (e : Exit) (X : St) (f : FuncId) (c : Code) (s : St) : Option Ask2 := if f == 10 then some ⟨⟨[], [], [], []⟩, e, fun _ => X⟩ else none
def KX (x : Nest) (R : RT) (e : Exit) (X : St) : Given := Given.asking2 (KL x R) Try.prog (askL e X)
theorem KX_ok (x : Nest) (R : RT) (e : Exit) (X : St) : GivenOk Try.prog (KX x R e X) := (KL_ok x R).asking2 _
def call3 (x : Nest) (K : Given) (P n c : Nat) (o : List (Option Bool)) : Option (Value × Prop) := ((mk Try.prog K 300).call 3 [S P n c] (smSt 1 [some (.fam x.F)] o)).map (fun r => (r.1, r.2.obl))
end
end pc
end Go.Proofs.Yteknepfcbpoooab
