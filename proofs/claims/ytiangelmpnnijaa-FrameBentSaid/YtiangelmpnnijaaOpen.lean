/- What a slice that came in holds, cell by cell. -/
import Derived.Test.YtiangelmpnnijaaShut
import Derived.ChangeOld
namespace Go.Proofs.Ytiangelmpnnijaa
open Go.ChangeShapes Go.WideShapes Go.ChangeAt Go.RowKit

theorem add_none (b o k : Nat) : Addr.add ⟨b, o, none⟩ k = ⟨b, o + k, none⟩ := by
  by_cases h : k = 0 <;> simp [Addr.add, h]

section
variable {H : Type} {enc : TypeId × Value → H} {P : Program} {w : World} {base : Nat} {spare : Nat → Bool} {held : Bool}

/-- a slice's header, and that it has cells, of any element's type -/
theorem open_cells {t e : TypeId} {r : Reach} {b0 : Nat} {v : Value} {d : DataW H} {ps : List MemPlace} (ht : P.underlying t = some (.slice e)) (hc : 0 < P.cellsOf e)
    (hval : Value.okWide P w r b0 t v) (h : DataW.Trod enc P w base spare held t v d ps) :
    ∃ a n c, v = .slice a n c ∧ n ≤ c ∧ c ≤ maxLen ∧ (n = 0 ∨ ∃ b o, a = some ⟨b, o, none⟩ ∧ b < w.heap.size ∧
      ∀ i, i < n → ∃ cs y m, cs.length = P.cellsOf e ∧ (∀ j, j < P.cellsOf e → w.cell? ⟨b, o + i * P.cellsOf e + j, none⟩ = cs[j]?) ∧ DataW.trod enc P w base spare held m e cs = some y) := by
  obtain ⟨a, n, c, rfl⟩ := okWide_slice ht hval
  obtain ⟨fuel, hf⟩ := h
  rcases DataW.trod_slice ht hf with ⟨hx, _⟩ | ⟨x, n', c', elems, rest, m, _, hx, _, hb, hl, hm, hlen, hel, _, _⟩
  · simp [Value.cells] at hx
    obtain ⟨rfl, rfl, rfl⟩ := hx
    exact ⟨none, 0, 0, rfl, Nat.le_refl _, Nat.zero_le _, .inl rfl⟩
  · simp [Value.cells] at hx
    obtain ⟨rfl, rfl, rfl⟩ := hx
    refine ⟨_, n, c, rfl, hl, hm, ?_⟩
    by_cases h0 : n = 0
    · exact .inl h0
    · have each : ∀ i, i < n → ∃ cs y, cs.length = P.cellsOf e ∧ (∀ j, j < P.cellsOf e → w.cell? ((x.add (i * P.cellsOf e)).add j) = cs[j]?) ∧ DataW.trod enc P w base spare held m e cs = some y := by
        intro i hi
        have h1 := hel i hi
        have h2 : elems[i]? = some (elems[i]'(by omega)) := List.getElem?_eq_getElem _
        rw [h2, Option.bind_eq_some_iff] at h1
        obtain ⟨cs, hcs, hy⟩ := h1
        obtain ⟨_, q1, q2⟩ := World.cells?_some hcs
        exact ⟨cs, _, q1, q2, hy⟩
      obtain ⟨b, o, spot⟩ := x
      obtain ⟨cs, y, q1, q2, _⟩ := each 0 (by omega)
      have c0 := q2 0 hc
      have c1 : cs[0]? = some (cs[0]'(by omega)) := List.getElem?_eq_getElem _
      rw [c1] at c0
      have hs : spot = none := by simpa [Addr.add] using World.cell?_spot c0
      subst hs
      refine .inr ⟨b, o, rfl, by simpa [Addr.add] using World.block_lt_of_cell? _ _ c0, fun i hi => ?_⟩
      obtain ⟨cs, y, q1, q2, q3⟩ := each i hi
      exact ⟨cs, y, m, q1, fun j hj => by have := q2 j hj; rwa [add_none, add_none] at this, q3⟩

/-- a slice of whole numbers -/
theorem open_irow {t e : TypeId} {k : IntKind} {r : Reach} {b0 : Nat} {v : Value} {d : DataW H} {ps : List MemPlace} (ht : P.underlying t = some (.slice e)) (he : P.underlying e = some (.int k)) (hc : P.cellsOf e = 1)
    (hval : Value.okWide P w r b0 t v) (h : DataW.Trod enc P w base spare held t v d ps) :
    ∃ a n c, v = .slice a n c ∧ n ≤ c ∧ c ≤ maxLen ∧ (n = 0 ∨ ∃ (b o : Nat) (f : Nat → Int), a = some ⟨b, o, none⟩ ∧ b < w.heap.size ∧ ∀ i, i < n → w.cell? ⟨b, o + i, none⟩ = some (.int k (f i)) ∧ (Lit.int k (f i)).wf = true) := by
  obtain ⟨a, n, c, rfl, h1, h2, h3⟩ := open_cells ht (by omega) hval h
  refine ⟨a, n, c, rfl, h1, h2, h3.imp_right ?_⟩
  rintro ⟨b, o, rfl, hb, hx⟩
  refine ⟨b, o, fun i => match w.cell? ⟨b, o + i, none⟩ with | some (.int _ z) => z | _ => 0, rfl, hb, fun i hi => ?_⟩
  obtain ⟨cs, y, m, q1, q2, q3⟩ := hx i hi
  obtain ⟨z, rfl, _, hw⟩ := DataW.trod_int he q3
  have := q2 0 (by omega)
  simp [hc] at this
  simp [this, hw]

/-- a slice of truths -/
theorem open_brow {t e : TypeId} {r : Reach} {b0 : Nat} {v : Value} {d : DataW H} {ps : List MemPlace} (ht : P.underlying t = some (.slice e)) (he : P.underlying e = some .bool) (hc : P.cellsOf e = 1)
    (hval : Value.okWide P w r b0 t v) (h : DataW.Trod enc P w base spare held t v d ps) :
    ∃ a n c, v = .slice a n c ∧ n ≤ c ∧ c ≤ maxLen ∧ (n = 0 ∨ ∃ (b o : Nat) (f : Nat → Bool), a = some ⟨b, o, none⟩ ∧ b < w.heap.size ∧ ∀ i, i < n → w.cell? ⟨b, o + i, none⟩ = some (.bool (f i))) := by
  obtain ⟨a, n, c, rfl, h1, h2, h3⟩ := open_cells ht (by omega) hval h
  refine ⟨a, n, c, rfl, h1, h2, h3.imp_right ?_⟩
  rintro ⟨b, o, rfl, hb, hx⟩
  refine ⟨b, o, fun i => match w.cell? ⟨b, o + i, none⟩ with | some (.bool z) => z | _ => false, rfl, hb, fun i hi => ?_⟩
  obtain ⟨cs, y, m, q1, q2, q3⟩ := hx i hi
  obtain ⟨z, rfl, _⟩ := DataW.trod_bool he q3
  have := q2 0 (by omega)
  simp [hc] at this
  simp [this]
end
end Go.Proofs.Ytiangelmpnnijaa
