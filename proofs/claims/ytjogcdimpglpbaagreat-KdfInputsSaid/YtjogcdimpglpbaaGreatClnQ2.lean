/- A determinate reading of Go's code: a table of calls on plain arguments, each told by a theorem of its own. -/
import Derived.Test.YtjogcdimpglpbaaGreatClnP27
namespace Go.Cln
set_option linter.unusedVariables false
set_option linter.unusedSimpArgs false
set_option linter.deprecated false

def eq0 : Value → Value → Bool
  | .int k n, .int k' m => decide (k = k') && decide (n = m)
  | .bool a, .bool b => a == b
  | .func (.func f) x y, .func (.func g) z u => f == g && (x.toList.isEmpty && y.toList.isEmpty) && (z.toList.isEmpty && u.toList.isEmpty)
  | _, _ => false
def eqRow : List Value → List Value → Bool
  | [], [] => true
  | a :: l, b :: r => eq0 a b && eqRow l r
  | _, _ => false
def eq1 : Value → Value → Bool
  | .agg x, .agg y => eqRow x.toList y.toList
  | a, b => eq0 a b
def eqArgs : List Value → List Value → Bool
  | [], [] => true
  | a :: l, b :: r => eq1 a b && eqArgs l r
  | _, _ => false
theorem eq0_eq {a b : Value} (h : eq0 a b = true) : a = b := by
  unfold eq0 at h
  split at h
  · simp only [Bool.and_eq_true, decide_eq_true_eq] at h; rw [h.1, h.2]
  · rw [eq_of_beq h]
  · rename_i f x y g z u
    simp only [Bool.and_eq_true, List.isEmpty_iff] at h
    obtain ⟨x⟩ := x; obtain ⟨y⟩ := y; obtain ⟨z⟩ := z; obtain ⟨u⟩ := u
    obtain ⟨⟨h1, h2, h3⟩, h4, h5⟩ := h
    simp only at h2 h3 h4 h5
    subst h2; subst h3; subst h4; subst h5
    rw [eq_of_beq h1]
  · cases h
theorem eqRow_eq : ∀ {a b : List Value}, eqRow a b = true → a = b
  | [], [], _ => rfl
  | a :: l, b :: r, h => by
    simp only [eqRow, Bool.and_eq_true] at h
    rw [eq0_eq h.1, eqRow_eq h.2]
  | [], _ :: _, h => by simp [eqRow] at h
  | _ :: _, [], h => by simp [eqRow] at h
theorem eq1_eq {a b : Value} (h : eq1 a b = true) : a = b := by
  unfold eq1 at h
  split at h
  · rename_i x y
    have := eqRow_eq h
    obtain ⟨x⟩ := x; obtain ⟨y⟩ := y
    simp only at this; rw [this]
  · exact eq0_eq h
theorem eqArgs_eq : ∀ {a b : List Value}, eqArgs a b = true → a = b
  | [], [], _ => rfl
  | a :: l, b :: r, h => by
    simp only [eqArgs, Bool.and_eq_true] at h
    rw [eq1_eq h.1, eqArgs_eq h.2]
  | [], _ :: _, h => by simp [eqArgs] at h
  | _ :: _, [], h => by simp [eqArgs] at h

/-- a call on plain arguments, of which it is known that it answers so, whatever the world -/
structure Tell (P : Program) where
  fn : FuncId
  args : List Value
  val : Value
  plain : args.all flat = true ∧ flat val = true
  runs : ∀ W : World, Calls P fn args.toArray W fun e w' => e = .returned val ∧ Go.RowKit.Below W.heap.size W w'

def lookT {P : Program} : List (Tell P) → FuncId → List Value → Option Value
  | [], _, _ => none
  | t :: l, f, args => if t.fn == f then (if eqArgs t.args args then some t.val else lookT l f args) else lookT l f args
theorem lookT_ok {P : Program} : ∀ {l : List (Tell P)} {f : FuncId} {args : List Value} {v : Value}, lookT l f args = some v → args.all flat = true ∧ flat v = true ∧ ∀ W : World, Calls P f args.toArray W fun e w' => e = .returned v ∧ Go.RowKit.Below W.heap.size W w'
  | [], f, args, v, h => by simp [lookT] at h
  | t :: l, f, args, v, h => by
    simp only [lookT] at h
    split at h
    · rename_i hf
      split at h
      · rename_i ha
        simp only [Option.some.injEq] at h
        have e := eqArgs_eq ha
        have ef := eq_of_beq hf
        subst ef; subst e; subst h
        exact ⟨t.plain.1, t.plain.2, t.runs⟩
      · exact lookT_ok h
    · exact lookT_ok h
def Given.table {P : Program} (l : List (Tell P)) : Given := Given.calls (lookT l)
theorem GivenOk.table {P : Program} (l : List (Tell P)) : GivenOk P (Given.table l) := GivenOk.calls fun _ _ _ h => lookT_ok h

theorem flat_vl {N : Nat → Prop} {ρ : Nat → PB} : ∀ {l : List Value}, l.all flat = true → VL N ρ l l
  | [], _ => VL.nil
  | v :: l, h => by
    simp only [List.all_cons, Bool.and_eq_true] at h
    exact VL.cons (.of_flat h.1) (flat_vl h.2)
/-- a call on plain arguments that the reading has run -/
theorem ranF {P : Program} (G : PG P) {K : Given} (hK : GivenOk P K) {n : Nat} {f : FuncId} {args : List Value} {orc : List (Option Bool)} {v : Value} {p : Prop}
    (hr : ((mk P K n).call f args (St.start 0 .leaf orc)).map (fun r => (r.1, r.2.obl)) = some (v, p)) (hp : p) (ha : args.all flat = true) (hv : flat v = true) (W : World) :
    Calls P f args.toArray W fun e w' => e = .returned v ∧ Go.RowKit.Below W.heap.size W w' :=
  ranG G hK (ρ := fun _ => ⟨0, 0, 0⟩) hr hp hv (named_hs 0 orc _ W) (flat_vl ha)

end Go.Cln
