/- A determinate reading of Go's code: methods that look at their receiver alone, told one by one. -/
import Derived.Test.YtjogcdimpglpbaaGreatClnQ6
import Derived.Test.YtjogcdimpglpbaaGreatClnQ2
namespace Go.Cln
set_option linter.unusedVariables false
set_option linter.unusedSimpArgs false
set_option linter.deprecated false
noncomputable section

/-- what stands there, from a cell on -/
def HasCells (w : World) (b o : Nat) (l : List Value) : Prop := ∃ (pc : Array Value) (t : TypeId) (fr : Nat × Nat), w.heap[b]? = some (.cells pc t fr) ∧ ∀ (i : Nat) (v : Value), l[i]? = some v → pc[o + i]? = some v
def litHeap (l : List Value) : Tr := Tr.rebuild (fun i => match i with | 0 => some (.cells (.lit l) 0) | _ => none) 1
theorem lit_hs {w : World} {b o : Nat} {l : List Value} (hl : l.all flat0 = true) (h : HasCells w b o l) :
    ∃ ρ : Nat → PB, Hs (St.start 1 (litHeap l) []) ρ w ∧ VR (Dm (St.start 1 (litHeap l) [])) ρ (P0 0 0) (.pointer (some ⟨b, o, none⟩)) := by
  obtain ⟨pc, t, fr, h1, h2⟩ := h
  refine ⟨fun _ => ⟨b, o, pc.size⟩, ⟨⟨fun x y hx => ?_, fun x x' y y' hx hx' _ => ?_⟩, fun _ _ => rfl, ⟨Nat.le_refl _, fun x hx => by simp [St.start] at hx⟩⟩, .ptr ⟨Nat.zero_lt_one, rfl⟩⟩
  · have hx' : (litHeap l).get x = some y := hx
    obtain ⟨g1, g2⟩ := heap_at (by omega) hx'
    have : x = 0 := by omega
    subst this
    simp only [Option.some.injEq] at g2
    subst g2
    refine ⟨⟨g1, rfl⟩, pc, t, fr, h1, rfl, fun m => absurd m (by simp [St.start]), fun i v hv => ⟨v, h2 i v hv, .same (List.all_eq_true.1 hl v (List.mem_of_getElem? hv))⟩⟩
  · obtain ⟨g1, _⟩ := heap_at (by omega) (show (litHeap l).get x = some y from hx)
    obtain ⟨g2, _⟩ := heap_at (by omega) (show (litHeap l).get x' = some y' from hx')
    omega

/-- a method of what is known, on plain arguments, of which it is known what it answers -/
structure TellP (P : Program) where
  fn : FuncId
  cells : List Value
  args : List Value
  val : Value
  plain : cells.all flat0 = true ∧ args.all flat = true ∧ flat val = true
  runs : ∀ (W : World) (b o : Nat), HasCells W b o cells → Calls P fn (.pointer (some ⟨b, o, none⟩) :: args).toArray W fun e w' => e = .returned val ∧ Go.RowKit.Below W.heap.size W w'
theorem ranP {P : Program} (G : PG P) {K : Given} (hK : GivenOk P K) {n : Nat} {f : FuncId} {cells args : List Value} {v : Value} {p : Prop}
    (hr : ((mk P K n).call f (P0 0 0 :: args) (St.start 1 (litHeap cells) [])).map (fun r => (r.1, r.2.obl)) = some (v, p)) (hp : p) (hc : cells.all flat0 = true) (ha : args.all flat = true) (hv : flat v = true)
    (W : World) (b o : Nat) (h : HasCells W b o cells) : Calls P f (.pointer (some ⟨b, o, none⟩) :: args).toArray W fun e w' => e = .returned v ∧ Go.RowKit.Below W.heap.size W w' := by
  obtain ⟨ρ, g1, g2⟩ := lit_hs hc h
  exact ranG G hK hr hp hv g1 (VL.cons g2 (flat_vl ha))

def lookP {P : Program} : List (TellP P) → FuncId → List Value → St → Option Value
  | [], _, _, _ => none
  | t :: l, f, args, s => if t.fn == f then
      (match args with
        | .pointer (some ⟨b, o, none⟩) :: rest => match s.heap.get b with
          | some (.cells (.lit L) _) => if eqRow t.cells ((L.drop o).take t.cells.length) && eqArgs t.args rest then some t.val else lookP l f args s
          | _ => lookP l f args s
        | _ => lookP l f args s)
      else lookP l f args s
theorem lookP_ok {P : Program} : ∀ {l : List (TellP P)} {f : FuncId} {args : List Value} {s : St} {v : Value}, lookP l f args s = some v →
    flat v = true ∧ ∀ (ρ : Nat → PB) (w : World) (args' : List Value), Hs s ρ w → VL (Dm s) ρ args args' → Calls P f args'.toArray w fun e w' => e = .returned v ∧ Go.RowKit.Below w.heap.size w w'
  | [], f, args, s, v, h => by simp [lookP] at h
  | t :: l, f, args, s, v, h => by
    simp only [lookP] at h
    split at h
    · rename_i hf
      have ef := eq_of_beq hf
      subst ef
      split at h
      · rename_i b o rest
        split at h
        · rename_i L ty hb
          split at h
          · rename_i hc
            rw [Bool.and_eq_true] at hc
            simp only [Option.some.injEq] at h
            subst h
            have ec := eqRow_eq hc.1
            have ea := eqArgs_eq hc.2
            refine ⟨t.plain.2.2, fun ρ w args' hs ha => ?_⟩
            obtain ⟨a1, r1, rfl, ha1, hr1⟩ := ha.inv_cons
            rw [← ea] at hr1
            have er := hr1.eq_flat t.plain.2.1
            subst er
            cases ha1 with
            | same hf => simp [flat0] at hf
            | ptr hN =>
              refine t.runs w _ _ ?_
              obtain ⟨pc, ty', fr, g1, _, _, g4⟩ := (hs.ob b _ hb).2
              refine ⟨pc, ty', fr, g1, fun i x hx => ?_⟩
              have hfl : flat0 x = true := List.all_eq_true.1 t.plain.1 x (List.mem_of_getElem? hx)
              rw [ec, List.getElem?_take] at hx
              split at hx
              · rw [List.getElem?_drop] at hx
                obtain ⟨x', k1, k2⟩ := g4 (o + i) x hx
                rw [k2.eq_flat0 hfl] at k1
                rw [Nat.add_assoc]; exact k1
              · cases hx
          · exact lookP_ok h
        · exact lookP_ok h
      · exact lookP_ok h
    · exact lookP_ok h
theorem GivenOk.tellP {P : Program} {K : Given} (h : GivenOk P K) (l : List (TellP P)) : GivenOk P (Given.reads K (lookP l)) := h.reads fun _ _ _ _ => lookP_ok
end
end Go.Cln
