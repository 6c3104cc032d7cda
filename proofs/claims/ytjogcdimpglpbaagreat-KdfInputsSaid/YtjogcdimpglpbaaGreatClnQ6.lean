/- A determinate reading of Go's code: arrays of numbers that come in. -/
import Derived.Test.YtjogcdimpglpbaaGreatClnQ5
namespace Go.Cln
set_option linter.unusedVariables false
set_option linter.unusedSimpArgs false
set_option linter.deprecated false
open Go.WideShapes in
/-- an array of whole numbers that came in -/
theorem open_row {P : Program} {w : World} {r : Reach} {b0 : Nat} {t u : TypeId} {v : Value} {n : Nat} {k : IntKind} (hs : (match P.underlying t with | some (.struct _) | some (.array _ _) => true | _ => false) = true)
    (hts : P.cellTypes P.depth t = some (List.replicate n u)) (hn : P.cellsOf t = n) (hu : P.underlying u = some (.int k)) (h : Value.okWide P w r b0 t v) :
    ∃ g : Nat → Int, v = .agg (rowV k n g).toArray ∧ ∀ j, j < n → (Lit.int k (g j)).wf = true := by
  obtain ⟨l, rfl, hl, hc⟩ := open_agg hs hts (by rw [hn]; simp) h
  have hl' : l.length = n := by simpa using hl
  have cell : ∀ (i : Nat) (x : Value), l[i]? = some x → ∃ m, x = .int k m ∧ (Lit.int k m).wf = true := fun i x hx => by
    have hi : i < n := by
      rcases Nat.lt_or_ge i l.length with h | h
      · omega
      · rw [List.getElem?_eq_none h] at hx; cases hx
    exact cell_int hu (hc i x u hx (by rw [List.getElem?_replicate, if_pos hi]))
  have hk : l.all (isKind k) = true := by
    rw [List.all_eq_true]
    intro x hx
    obtain ⟨i, hi, rfl⟩ := List.getElem_of_mem hx
    obtain ⟨m, hm, _⟩ := cell i l[i] (by rw [List.getElem?_eq_getElem hi])
    rw [hm]; simp [isKind]
  refine ⟨intAt l, by rw [rowV_of hl' hk], fun j hj => ?_⟩
  obtain ⟨m, hm, hw⟩ := cell j l[j] (by rw [List.getElem?_eq_getElem (by omega)])
  have e : getL l j = l[j] := by rw [getL_eq, List.getD_eq_getElem?_getD, List.getElem?_eq_getElem (by omega)]; rfl
  unfold intAt
  rw [e, hm]; exact hw

/-- two tables of calls, one behind the other -/
def orF (F G : FuncId → List Value → Option Value) (f : FuncId) (args : List Value) : Option Value := match F f args with
  | some v => some v
  | none => G f args
def CallsOk (P : Program) (F : FuncId → List Value → Option Value) : Prop := ∀ f args v, F f args = some v → args.all flat = true ∧ flat v = true ∧ ∀ W : World, Calls P f args.toArray W fun e w' => e = .returned v ∧ Go.RowKit.Below W.heap.size W w'
theorem CallsOk.or {P : Program} {F G : FuncId → List Value → Option Value} (hF : CallsOk P F) (hG : CallsOk P G) : CallsOk P (orF F G) := fun f args v h => by
  unfold orF at h
  split at h
  · rename_i hv; cases h; exact hF _ _ _ hv
  · exact hG _ _ _ h
theorem CallsOk.given {P : Program} {F : FuncId → List Value → Option Value} (h : CallsOk P F) : GivenOk P (Given.calls F) := GivenOk.calls h
/-- one call without arguments -/
def oneF (k : FuncId) (v : Value) (f : FuncId) (args : List Value) : Option Value := if f == k then match args with
  | [] => some v
  | _ => none else none
theorem CallsOk.one {P : Program} {k : FuncId} {v : Value} (hv : flat v = true) (h : ∀ W : World, Calls P k #[] W fun e w' => e = .returned v ∧ Go.RowKit.Below W.heap.size W w') : CallsOk P (oneF k v) := fun f args x hx => by
  unfold oneF at hx
  split at hx
  · rename_i hf
    have hf' : f = k := by simpa using hf
    subst hf'
    split at hx
    · cases hx; exact ⟨rfl, hv, h⟩
    · cases hx
  · cases hx
end Go.Cln
