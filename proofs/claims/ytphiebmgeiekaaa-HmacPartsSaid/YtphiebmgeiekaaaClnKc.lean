/- Read off the code by the clean reading. -/
import Derived.Test.YtphiebmgeiekaaaClnKa
import Derived.Test.YtphiebmgeiekaaaClnKb
set_option linter.unusedVariables false
set_option linter.unusedSimpArgs false
set_option linter.deprecated false
set_option maxRecDepth 100000
namespace Go.Proofs.Ytphiebmgeiekaaa
open Go.ChangeShapes Go.WideShapes Go.ChangeAt Go.RowKit Go.Cln
namespace kc
open ka (KY kv S ix ix_eq WK tag8 ref11 ref11n hZ8 h11i h11n)
open hc hx hy hz tb tc td ha hd
set_option linter.unusedVariables false
noncomputable section
abbrev GT := List Int → List Int → sw.N5
def aK (T : GT) (x : Nest) (y : KY) (F : Nat → Nat → Cells) (Q n c : Nat) : Prop := T = tgN ∧ F = x.F ∧ Q = y.Q ∧ n = y.n ∧ c = y.c ∧ y.n = (WK x y).length ∧ y.n ≤ 1000
def F8 (T : GT) (x : Nest) (y : KY) (f : FuncId) (args : List Value) (s : St) : Option Inst := if f == 8 then match args with
  | [.slice (some ⟨Q, 0, some 1000⟩) n c, .slice (some ⟨P, 0, some 1001⟩) m d] => match s.heap.get 0 with
    | some (.fam F) => some ⟨[(0, 0)], 1, [some (.fam F)], [.slice (some ⟨Q, 0, some 1000⟩) n c, .slice (some ⟨P, 0, some 1001⟩) m d], .tuple #[outV (T (WK x y) (x.cat P m)), .int .i64 0], some (Ob.fam F) :: ha.nn 108,
        aK T x y F Q n c ∧ Byt (WK x y) ∧ y.n ≤ y.c ∧ x.Ok P ∧ m ≤ x.N P ∧ m ≤ 30 ∧ (x.cat P m).length ≤ 9000⟩
    | _ => none
  | _ => none else none
theorem F8_ok (T : GT) (x : Nest) (y : KY) (f : FuncId) (args : List Value) (s : St) (i : Inst) (h : F8 T x y f args s = some i) : Fits s i args ∧ (i.ask → CallOk Try.prog f i.args i.s0 i.val i.s1) := by
  unfold F8 at h
  split at h
  · rename_i hf
    have hf' : f = 8 := by simpa using hf
    subst hf'
    split at h
    · rename_i Q n c P m d
      split at h
      · rename_i F hF
        cases h
        refine ⟨⟨rfl, fun j pp ob h1 h2 => ?_⟩, fun ha => ?_⟩
        · rcases j with _ | j
          · simp only [List.getElem?_cons_zero, Option.some.injEq] at h1
            subst h1
            simp only [List.getElem?_cons_zero, Option.some.injEq] at h2
            subst h2
            exact ⟨_, hF, fun _ _ _ _ hx => hx⟩
          · simp at h1
        · obtain ⟨⟨rfl, rfl, rfl, rfl, rfl, q1, q2⟩, q3, q4, q5, q6, q7, q8⟩ := ha
          exact tag8 q5 q6 q7 q3 q1 q4 q2 q8
      · cases h
    · cases h
  · cases h
def F11 (T : GT) (x : Nest) (y : KY) (f : FuncId) (args : List Value) (s : St) : Option Inst := if f == 11 then match args with
  | [.slice (some ⟨Q, 0, some 1000⟩) n c, .slice (some ⟨b, o, some 1⟩) a q] => match s.heap.get 0 with
    | some (.fam F) => match s.heap.get b with
      | some (.cells (.ints .u8 l) _) => some ⟨[(0, 0), (b, o)], 2, [some (.fam F), oM ((l.drop o).take a)], [.slice (some ⟨Q, 0, some 1000⟩) n c, .slice (some ⟨1, 0, some 1⟩) a q], outV (T (WK x y) ((l.drop o).take a)), [some (Ob.fam F), oM ((l.drop o).take a)] ++ ha.nn 339,
          aK T x y F Q n c ∧ a = ((l.drop o).take a).length ∧ 0 < a ∧ a ≤ 9000⟩
      | _ => none
    | _ => none
  | [.slice (some ⟨Q, 0, some 1000⟩) n c, .slice none 0 0] => match s.heap.get 0 with
    | some (.fam F) => some ⟨[(0, 0)], 1, [some (.fam F)], [.slice (some ⟨Q, 0, some 1000⟩) n c, .slice none 0 0], outV (T (WK x y) []), [some (Ob.fam F)] ++ ha.nn 338, aK T x y F Q n c⟩
    | _ => none
  | _ => none else none
theorem F11_ok (T : GT) (x : Nest) (y : KY) (f : FuncId) (args : List Value) (s : St) (i : Inst) (h : F11 T x y f args s = some i) : Fits s i args ∧ (i.ask → CallOk Try.prog f i.args i.s0 i.val i.s1) := by
  unfold F11 at h
  split at h
  · rename_i hf
    have hf' : f = 11 := by simpa using hf
    subst hf'
    split at h
    · rename_i Q n c b o a q
      split at h
      · rename_i F hF
        split at h
        · rename_i l tb hb
          cases h
          refine ⟨⟨?_, fun j pp ob h1 h2 => ?_⟩, fun ha => ?_⟩
          · show [Value.slice (some ⟨Q, 0, some 1000⟩) n c, Value.slice (some ⟨b, o, some 1⟩) a q] = [Value.slice (some ⟨Q, 0, some 1000⟩) n c, Value.slice (some ⟨b, addO o 0, some 1⟩) a q]
            rw [addO_eq]; rfl
          · rcases j with _ | _ | j
            · simp only [List.getElem?_cons_zero, Option.some.injEq] at h1
              subst h1
              simp only [List.getElem?_cons_zero, Option.some.injEq] at h2
              subst h2
              exact ⟨_, hF, fun _ _ _ _ hx => hx⟩
            · simp only [Nat.zero_add, List.getElem?_cons_succ, List.getElem?_cons_zero, Option.some.injEq] at h1
              subst h1
              simp only [Nat.zero_add, List.getElem?_cons_succ, List.getElem?_cons_zero, Option.some.injEq, oM] at h2
              subst h2
              exact ⟨_, hb, fit_ints⟩
            · simp at h1
          · obtain ⟨⟨rfl, rfl, rfl, rfl, rfl, q1, q2⟩, q3, q4, q5⟩ := ha
            exact ref11 x y _ a q q1 q2 q3 q4 q5
        · cases h
      · cases h
    · rename_i Q n c
      split at h
      · rename_i F hF
        cases h
        refine ⟨⟨rfl, fun j pp ob h1 h2 => ?_⟩, fun ha => ?_⟩
        · rcases j with _ | j
          · simp only [List.getElem?_cons_zero, Option.some.injEq] at h1
            subst h1
            simp only [List.getElem?_cons_zero, Option.some.injEq] at h2
            subst h2
            exact ⟨_, hF, fun _ _ _ _ hx => hx⟩
          · simp at h1
        · obtain ⟨rfl, rfl, rfl, rfl, rfl, q1, q2⟩ := ha
          exact ref11n x y q1 q2
      · cases h
    · cases h
  · cases h
def FLw (T : GT) (x : Nest) (y : KY) (f : FuncId) (args : List Value) (s : St) : Option Inst := match F8 T x y f args s with
  | some i => some i
  | none => match F11 T x y f args s with
    | some i => some i
    | none => kb.F7 f args s
theorem FLw_ok (T : GT) (x : Nest) (y : KY) (f : FuncId) (args : List Value) (s : St) (i : Inst) (h : FLw T x y f args s = some i) : Fits s i args ∧ (i.ask → CallOk Try.prog f i.args i.s0 i.val i.s1) := by
  unfold FLw at h
  split at h
  · rename_i j h1
    cases h; exact F8_ok T x y f args s _ h1
  · split at h
    · rename_i j h1
      cases h; exact F11_ok T x y f args s _ h1
    · exact kb.F7_ok kb.works_ok f args s _ h
def KL (T : GT) (x : Nest) (y : KY) : Given := { Given.frames Given.nothing (FLw T x y) with fits := true }
theorem KL_ok (T : GT) (x : Nest) (y : KY) : GivenOk Try.prog (KL T x y) := frames_fits ((GivenOk.nothing _).frames (FLw_ok T x y)) true
def askL (e : Exit) (X : St) (f : FuncId) (c : Code) (s : St) : Option Ask2 := if f == 3 then some ⟨⟨[], [], [], []⟩, e, fun _ => X⟩ else none
def KX (T : GT) (x : Nest) (y : KY) (e : Exit) (X : St) : Given := Given.asking2 (KL T x y) Try.prog (askL e X)
theorem KX_ok (T : GT) (x : Nest) (y : KY) (e : Exit) (X : St) : GivenOk Try.prog (KX T x y e X) := (KL_ok T x y).asking2 _
def call3 (x : Nest) (y : KY) (K : Given) (P n c : Nat) (o : List (Option Bool)) : Option (Value × Prop) := ((mk Try.prog K 300).call 3 [kv y, S P n c] (smSt 1 [some (.fam x.F)] o)).map (fun r => (r.1, r.2.obl))
/-- only to print -/
def KP (T : GT) (x : Nest) (y : KY) (X : St) : Given := { KL T x y with loop := fun f c s => if f == 3 then some (.exit 0, { X with obl := s.obl, orc := s.orc }) else none }
end
end kc
end Go.Proofs.Ytphiebmgeiekaaa
namespace Go.Proofs.Ytphiebmgeiekaaa
open Go.ChangeShapes Go.WideShapes Go.ChangeAt Go.RowKit Go.Cln
namespace kc
open ka (KY kv S ix ix_eq WK tag8 ref11 ref11n hZ8 h11i h11n)
open kb (lE lN lR eY nY rY lb)
open hc hx hy hz tb tc td ha hd
set_option linter.unusedVariables false
noncomputable section
def T1 : Option Bool := some true
def F1 : Option Bool := some false
def nn' (k : Nat) : List (Option Bool) := List.replicate k none
def oH : List (Option Bool) := [none, none, F1] ++ (nn' 6 ++ [F1])
def oA : List (Option Bool) := oH ++ (nn' 9 ++ (List.replicate 20 T1 ++ (nn' 55 ++ List.replicate 12 T1)))
def e1 (p : Prop) (u v : Int) : Prop := p ∧ decide (u = v) = true
def e4 (p : Prop) (u v : Int) : Prop := e1 (e1 (e1 (e1 p (by8 u 3) (by8 v 3)) (by8 u 2) (by8 v 2)) (by8 u 1) (by8 v 1)) (by8 u 0) (by8 v 0)
def e12 (p : Prop) (X Y : sw.N5) : Prop := e4 (e4 (e4 p X.a Y.a) X.b Y.b) X.c Y.c
def e20 (p : Prop) (X Y : sw.N5) : Prop := e4 (e4 (e12 p X Y) X.d Y.d) X.e Y.e
theorem e4_of {p : Prop} (u : Int) (hp : p) : e4 p u u := by
  unfold e4 e1
  simp only [decide_eq_true_eq, and_true]; exact hp
theorem e12_of {p : Prop} (X : sw.N5) (hp : p) : e12 p X X := e4_of _ (e4_of _ (e4_of _ hp))
theorem e20_of {p : Prop} (X : sw.N5) (hp : p) : e20 p X X := e4_of _ (e4_of _ (e12_of X hp))
def a0 (T : GT) (x : Nest) (y : KY) : Prop := aK T x y x.F y.Q y.n y.c
def q8 (T : GT) (x : Nest) (y : KY) (P n : Nat) : Prop := a0 T x y ∧ Byt (WK x y) ∧ y.n ≤ y.c ∧ x.Ok P ∧ n ≤ x.N P ∧ n ≤ 30 ∧ (x.cat P n).length ≤ 9000
def tk (L : List Int) (a : Nat) : List Int := (L.drop 0).take a
def q11 (T : GT) (x : Nest) (y : KY) (L : List Int) (a : Nat) : Prop := a0 T x y ∧ a = (tk L a).length ∧ 0 < a ∧ a ≤ 9000
def pF (y : KY) : Prop := True ∧ decide (nI y.n > 500) = false
def pHd (x : Nest) (y : KY) (P n c : Nat) (e : Exit) (X : St) : Prop := (pF y ∧ decide (nI n > 20) = false) ∧ (∀ rd, CodeOk Try.prog rd (.loop lb) (lE x y P n c) e X)
def pT (T : GT) (x : Nest) (y : KY) (P n : Nat) (p q : Prop) (M : List Int) : Prop := e12 (e20 (((p ∧ q8 T x y P n) ∧ q8 T x y P n) ∧ q) (T (WK x y) (x.cat P n)) (T (WK x y) M) ∧ q) (T (WK x y) (x.cat P n)) (T (WK x y) M) ∧ True
theorem runB1 (T : GT) (x : Nest) (y : KY) (P n c : Nat) : call3 x y (KL T x y) P n c [none, none, T1] = some (.bool true, (True ∧ decide (nI y.n > 500) = true) ∧ True) := by kernel_rfl
theorem runB2 (T : GT) (x : Nest) (y : KY) (P n c : Nat) : call3 x y (KL T x y) P n c ([none, none, F1] ++ (nn' 6 ++ [T1])) = some (.bool true, (pF y ∧ decide (nI n > 20) = true) ∧ True) := by kernel_rfl
theorem runA (T : GT) (x : Nest) (y : KY) (P n c k : Nat) (L : List Int) (a q : Nat) : call3 x y (KX T x y (.exit 0) (lR x y P n c k L a q)) P n c oA = some (.bool true, pT T x y P n (pHd x y P n c (.exit 0) (lR x y P n c k L a q)) (q11 T x y L a) (tk L a)) := by kernel_rfl
theorem runN (T : GT) (x : Nest) (y : KY) (P n c k : Nat) : call3 x y (KX T x y (.exit 0) (lN x y P n c k)) P n c oA = some (.bool true, pT T x y P n (pHd x y P n c (.exit 0) (lN x y P n c k)) (a0 T x y) []) := by kernel_rfl
theorem runYE (T : GT) (x : Nest) (y : KY) (P n c : Nat) : call3 x y (KX T x y .ret (eY x y P n c)) P n c oH = some (.bool true, pHd x y P n c .ret (eY x y P n c)) := by kernel_rfl
theorem runYN (T : GT) (x : Nest) (y : KY) (P n c k : Nat) : call3 x y (KX T x y .ret (nY x y P n c k)) P n c oH = some (.bool true, pHd x y P n c .ret (nY x y P n c k)) := by kernel_rfl
theorem runYR (T : GT) (x : Nest) (y : KY) (P n c k : Nat) (L : List Int) (a q : Nat) : call3 x y (KX T x y .ret (rY x y P n c k L a q)) P n c oH = some (.bool true, pHd x y P n c .ret (rY x y P n c k L a q)) := by kernel_rfl
/-- no parts: by place, of no length -/
theorem runZ (T : GT) (x : Nest) (y : KY) (P c : Nat) : call3 x y (KL T x y) P 0 c ([none, none, F1] ++ (nn' 7 ++ (nn' 10 ++ (List.replicate 20 T1 ++ (nn' 55 ++ List.replicate 12 T1))))) = some (.bool true, pT T x y P 0 (pF y) (a0 T x y) []) := by kernel_rfl
end
end kc
end Go.Proofs.Ytphiebmgeiekaaa
