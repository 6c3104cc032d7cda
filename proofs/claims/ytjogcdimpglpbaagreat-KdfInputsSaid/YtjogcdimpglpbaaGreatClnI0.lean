/- A determinate reading of Go's code: a slice that came in, read. -/
import Derived.Test.YtjogcdimpglpbaaGreatClnQ7
import Derived.Test.YtjogcdimpglpbaaGreatRows
import Derived.WalkKit
import Derived.ProofKit
import Derived.Below
import Derived.IntWalk
namespace Go.Cln
set_option linter.unusedVariables false
set_option linter.unusedSimpArgs false
set_option linter.deprecated false
noncomputable section

theorem lit_start {w : World} {b o : Nat} {l : List Value} (orc : List (Option Bool)) (hl : l.all flat0 = true) (h : HasCells w b o l) :
    ∃ ρ : Nat → PB, Hs (St.start 1 (litHeap l) orc) ρ w ∧ ∀ n c, n ≤ c → VR (Dm (St.start 1 (litHeap l) orc)) ρ (.slice (some ⟨0, 0, none⟩) n c) (.slice (some ⟨b, o, none⟩) n c) := by
  obtain ⟨pc, t, fr, h1, h2⟩ := h
  refine ⟨fun _ => ⟨b, o, pc.size⟩, ⟨⟨fun x y hx => ?_, fun x x' y y' hx hx' _ => ?_⟩, fun _ _ => rfl, ⟨Nat.le_refl _, fun x hx => by simp [St.start] at hx⟩⟩, fun n c hn => .slice ⟨Nat.zero_lt_one, rfl⟩ hn ⟨.inr rfl, fun _ => rfl, fun z hz => by cases hz⟩⟩
  · have hx' : (litHeap l).get x = some y := hx
    obtain ⟨g1, g2⟩ := heap_at (by omega) hx'
    have : x = 0 := by omega
    subst this
    simp only [Option.some.injEq] at g2
    subst g2
    refine ⟨⟨g1, rfl⟩, pc, t, fr, h1, rfl, fun m => absurd m (by simp [St.start]), fun i v hv => ⟨v, h2 i v hv, .same (List.all_eq_true.1 hl v (List.mem_of_getElem? hv))⟩⟩
  · obtain ⟨g1, _⟩ := heap_at (by omega) (show (litHeap l).get x = some y from hx)
    obtain ⟨g2, _⟩ := heap_at (by omega) (show (litHeap l).get x' = some y' from hx')
    omega

/-- a call with a slice ahead of plain arguments -/
theorem ranS {P : Program} (G : PG P) {K : Given} (hK : GivenOk P K) {n m c : Nat} {f : FuncId} {cells args : List Value} {orc : List (Option Bool)} {v : Value} {p : Prop}
    (hr : ((mk P K n).call f (.slice (some ⟨0, 0, none⟩) m c :: args) (St.start 1 (litHeap cells) orc)).map (fun r => (r.1, r.2.obl)) = some (v, p)) (hp : p) (hc : cells.all flat0 = true) (ha : args.all flat = true) (hv : flat v = true) (hm : m ≤ c)
    (W : World) (b o : Nat) (h : HasCells W b o cells) : Calls P f (.slice (some ⟨b, o, none⟩) m c :: args).toArray W fun e w' => e = .returned v ∧ Go.RowKit.Below W.heap.size W w' := by
  obtain ⟨ρ, g1, g2⟩ := lit_start orc hc h
  exact ranG G hK hr hp hv g1 (VL.cons (g2 m c hm) (flat_vl ha))

theorem rowV_flat (k : IntKind) (g : Nat → Int) (n : Nat) : (rowV k n g).all flat0 = true := by
  unfold rowV
  rw [famList_eq]
  simp [flat0]
theorem hasCells_row {w : World} {b o n : Nat} {k : IntKind} {g : Nat → Int} (hb : ∃ (pc : Array Value) (t : TypeId) (fr : Nat × Nat), w.heap[b]? = some (.cells pc t fr)) (h : ∀ i, i < n → w.cell? ⟨b, o + i, none⟩ = some (.int k (g i))) : HasCells w b o (rowV k n g) := by
  obtain ⟨pc, t, fr, h1⟩ := hb
  refine ⟨pc, t, fr, h1, fun i v hv => ?_⟩
  unfold rowV at hv
  rw [famList_get] at hv
  split at hv
  · rename_i hi
    have := h i hi
    simp only [World.cell?, h1] at this
    simp only [Nat.zero_add, Option.some.injEq] at hv
    rw [← hv]
    simpa using this
  · cases hv
theorem cells_of {w : World} {b i : Nat} {v : Value} (h : w.cell? ⟨b, i, none⟩ = some v) : ∃ (pc : Array Value) (t : TypeId) (fr : Nat × Nat), w.heap[b]? = some (.cells pc t fr) := by
  simp only [World.cell?] at h
  split at h
  · rename_i h1
    exact ⟨_, _, _, h1⟩
  · cases h
theorem crow {w : World} {a : Option Addr} {n c : Nat} {k : IntKind}
    (h : ∃ a' n' c', Value.slice a n c = .slice a' n' c' ∧ n' ≤ c' ∧ c' ≤ maxLen ∧ (n' = 0 ∨ ∃ (b o : Nat) (f : Nat → Int), a' = some ⟨b, o, none⟩ ∧ b < w.heap.size ∧ ∀ i, i < n' → w.cell? ⟨b, o + i, none⟩ = some (.int k (f i)) ∧ (Lit.int k (f i)).wf = true)) :
    n = 0 ∨ ∃ (b o : Nat) (f : Nat → Int), a = some ⟨b, o, none⟩ ∧ HasCells w b o (rowV k n f) := by
  obtain ⟨a', n', c', e, _, _, h⟩ := h
  cases e
  by_cases h0 : n = 0
  · exact .inl h0
  · rcases h with h | ⟨b, o, f, rfl, _, h⟩
    · exact absurd h h0
    · exact .inr ⟨b, o, f, rfl, hasCells_row (cells_of (h 0 (by omega)).1) fun i hi => (h i hi).1⟩
theorem upTo {Q : Nat → Prop} {a b : Nat} (h : ∀ i, a ≤ i → i < b → Q i) (e : Q b) : ∀ i, a ≤ i → i < b + 1 → Q i := fun i h1 h2 => by
  by_cases hb : i = b
  · subst hb; exact e
  · exact h i h1 (by omega)
end
end Go.Cln
set_option linter.unusedVariables false
set_option linter.unusedSimpArgs false
set_option linter.deprecated false
set_option maxRecDepth 100000
namespace Go.Proofs.YtjogcdimpglpbaaGreat
open Go.ChangeShapes Go.WideShapes Go.ChangeAt Go.RowKit Go.Cln
namespace ki
noncomputable section
def cb (x : Int) : UInt8 := UInt8.ofNat x.toNat
def ub (x : Int) : UInt8 := UInt8.ofNat (IntKind.u8.wrap x).toNat
def bs (g : Nat → Int) : Nat → Nat → List UInt8
  | _, 0 => []
  | o, n + 1 => cb (g o) :: bs g (o + 1) n
def sI (n : Nat) (g : Nat → Int) (t : List UInt8) : ByteArray := ⟨(cb 1 :: cb 84 :: cb 67 :: cb 80 :: cb 45 :: cb 65 :: cb 79 :: (bs g 0 n ++ t)).toArray⟩
def tA (x : Int) : List UInt8 := [ub (x.fdiv (2 ^ 8)), ub x]
def tB (x : Int) : List UInt8 := [ub (IntKind.i64.wrap ((IntKind.i64.wrap x).tdiv 256)), ub ((IntKind.i64.wrap x).tmod 256)]
def eqI (n : Nat) (g : Nat → Int) (x : Int) : Bool := (sI n g (tA x)).toList == (sI n g (tB x)).toList
def pI (n : Nat) (g : Nat → Int) (x : Int) : Prop := ((((True ∧ eqI n g x = true) ∧ eqI n g x = true) ∧ eqI n g x = true) ∧ eqI n g x = true)
def orcI : List (Option Bool) := List.replicate 41 none ++ List.replicate 4 (some true)
def K10 : Given := Given.calls (oneF 10 (.bool true))
def Q (n : Nat) : Prop := ∀ (g : Nat → Int) (c : Nat) (x : Int), ((mk Tryz.prog K10 400).call 5 [.slice (some ⟨0, 0, none⟩) n c, .int .u16 x] (St.start 1 (litHeap (rowV .u8 n g)) orcI)).map (fun r => (r.1, r.2.obl)) = some (.bool true, pI n g x)
end
end ki
end Go.Proofs.YtjogcdimpglpbaaGreat
