/- A determinate reading of Go's code: from a reading that the kernel has run to the call of the model. -/
import Derived.Test.YtpfmilkddapfiaaClnP24
namespace Go.Cln
set_option linter.unusedVariables false
set_option linter.unusedSimpArgs false
set_option linter.deprecated false
theorem forIn_inv {α β : Type} {f : α → β → Option (ForInStep β)} {I : β → Prop} (hf : ∀ a b r, I b → f a b = some r → ∃ b', (r = .yield b' ∨ r = .done b') ∧ I b') : ∀ (l : List α) (b r : β), I b → forIn l b f = some r → I r
  | [], b, r, hb, h => by simp at h; subst h; exact hb
  | a :: l, b, r, hb, h => by
    rw [List.forIn_cons] at h
    have h : (f a b).bind _ = some r := h
    rw [bind_some] at h
    obtain ⟨x, h1, h⟩ := h
    obtain ⟨b', hx, hb'⟩ := hf a b x hb h1
    rcases hx with rfl | rfl
    · exact forIn_inv hf l b' r hb' h
    · have h : some b' = some r := h
      cases h; exact hb'
def ZI (s : Array Field × Nat × Nat × Nat × Nat × Bool × Bool × Option (Array Value) × String) : Prop := ∀ l, s.2.2.2.2.2.2.2.1 = some l → ∀ v ∈ l.toList, Dflat v
theorem flat_cells {z : Value} (h : Dflat z) : ∀ v ∈ z.cells.toList, Dflat v := fun v hv N ρ => by
  obtain ⟨i, hi⟩ := List.mem_iff_getElem?.1 hv
  exact (h N ρ).cells.2 i v v hi hi
theorem agg_flat {l : Array Value} (h : ∀ v ∈ l.toList, Dflat v) : Dflat (.agg l) := fun N ρ =>
  .agg rfl fun i v w hv hw => by rw [hv] at hw; cases hw; exact h v (List.mem_of_getElem? hv) N ρ
theorem word_flat {z : Value} (h : flat z = true) : Dflat z := fun N ρ => VR.of_flat h
theorem reckonStruct_zero {info : TypeId → Option TypeInfo} (h0 : ∀ t i z, info t = some i → i.zero = some z → Dflat z) {fs : Array Field} {r : TypeInfo} {z : Value} (h : Made.reckonStruct info fs = some r) (hz : r.zero = some z) : Dflat z := by
  unfold Made.reckonStruct at h
  dsimp only at h
  have h : Option.bind _ _ = some r := h
  rw [bind_some] at h
  obtain ⟨s, h1, h⟩ := h
  rw [← Array.forIn_toList] at h1
  have hI : ZI s := by
    refine forIn_inv (I := ZI) ?_ _ _ _ ?_ h1
    · intro a b r hb hf
      have hf : Option.bind _ _ = some r := hf
      rw [bind_some] at hf
      obtain ⟨i, hi, hf⟩ := hf
      have key : ∀ s' : Array Field × Nat × Nat × Nat × Nat × Bool × Bool × Option (Array Value) × String, s'.2.2.2.2.2.2.2.1 = (if b.2.1 + i.size > Made.mostCells then none else (b.2.2.2.2.2.2.2.1).bind fun x => (i.zero).bind fun y => some (x ++ y.cells)) → ZI s' := fun s' hs l hl => by
        rw [hs] at hl
        split at hl
        · cases hl
        · rw [bind_some] at hl; obtain ⟨x, hx, hl⟩ := hl
          rw [bind_some] at hl; obtain ⟨y, hy, hl⟩ := hl
          cases hl
          have h1 := hb x hx
          have h2 := flat_cells (h0 _ i y hi hy)
          intro v hv
          rw [Array.toList_append, List.mem_append] at hv
          exact hv.elim (h1 v) (h2 v)
      split at hf
      · have hf : (none : Option (ForInStep (Array Field × Nat × Nat × Nat × Nat × Bool × Bool × Option (Array Value) × String))) = some r := hf; cases hf
      split at hf
      · have hf : (none : Option (ForInStep (Array Field × Nat × Nat × Nat × Nat × Bool × Bool × Option (Array Value) × String))) = some r := hf; cases hf
      split at hf
      · have hf : Option.bind (some "") _ = some r := hf
        rw [Option.bind_some] at hf
        split at hf
        · have hf : some _ = some r := hf; cases hf; exact ⟨_, .inl rfl, key _ rfl⟩
        · have hf : some _ = some r := hf; cases hf; exact ⟨_, .inl rfl, key _ rfl⟩
      · have hf : Option.bind _ _ = some r := hf
        rw [bind_some] at hf
        obtain ⟨tag, _, hf⟩ := hf
        split at hf
        · have hf : some _ = some r := hf; cases hf; exact ⟨_, .inl rfl, key _ rfl⟩
        · have hf : some _ = some r := hf; cases hf; exact ⟨_, .inl rfl, key _ rfl⟩
    · intro l hl; simp at hl; subst hl; simp
  have : r.zero = Option.map Value.agg s.2.2.2.2.2.2.2.1 := by
    split at h <;> (have h : some _ = some r := h; cases h; rfl)
  rw [this, Option.map_eq_some_iff] at hz
  obtain ⟨l, hl, rfl⟩ := hz
  exact agg_flat (hI l hl)
theorem reckon_zero {info : TypeId → Option TypeInfo} (h0 : ∀ t i z, info t = some i → i.zero = some z → Dflat z) {d : TypeDesc} {r : TypeInfo} {z : Value} (h : Made.reckon info d = some r) (hz : r.zero = some z) : Dflat z := by
  unfold Made.reckon at h
  split at h
  · have h : Option.bind _ _ = some r := h
    rw [bind_some] at h
    obtain ⟨i, hi, h⟩ := h
    split at h
    · cases h
    · split at h
      · cases h
      · have h : Option.bind _ _ = some r := h
        rw [bind_some] at h
        obtain ⟨x, _, h⟩ := h
        cases h; cases hz; exact word_flat rfl
    · have h : Option.bind _ _ = some r := h
      rw [bind_some] at h
      obtain ⟨x, _, h⟩ := h
      cases h; cases hz; exact word_flat rfl
  · have h : Option.bind _ _ = some r := h
    rw [bind_some] at h
    obtain ⟨i, hi, h⟩ := h
    have h : Option.bind _ _ = some r := h
    rw [bind_some] at h
    obtain ⟨x, _, h⟩ := h
    cases h; cases hz; exact word_flat rfl
  · have h : Option.bind _ _ = some r := h
    rw [bind_some] at h
    obtain ⟨i, hi, h⟩ := h
    have h : Option.bind _ _ = some r := h
    rw [bind_some] at h
    obtain ⟨x, _, h⟩ := h
    have h : Option.bind _ _ = some r := h
    rw [bind_some] at h
    obtain ⟨y, _, h⟩ := h
    have h : Option.bind _ _ = some r := h
    rw [bind_some] at h
    obtain ⟨y, _, h⟩ := h
    cases h; cases hz; exact word_flat rfl
  · have h : Option.bind _ _ = some r := h
    rw [bind_some] at h
    obtain ⟨i, hi, h⟩ := h
    have h : Option.bind _ _ = some r := h
    rw [bind_some] at h
    obtain ⟨x, _, h⟩ := h
    cases h; cases hz; exact word_flat rfl
  · have h : Option.bind _ _ = some r := h
    rw [bind_some] at h
    obtain ⟨x, _, h⟩ := h
    cases h; cases hz; exact word_flat rfl
  · have h : Option.bind _ _ = some r := h
    rw [bind_some] at h
    obtain ⟨i, hi, h⟩ := h
    have h : Option.bind _ _ = some r := h
    rw [bind_some] at h
    obtain ⟨x, _, h⟩ := h
    cases h
    simp only at hz
    split at hz
    · cases hz
    · split at hz
      · cases hz; exact word_flat rfl
      · rw [Option.map_eq_some_iff] at hz
        obtain ⟨y, hy, rfl⟩ := hz
        have h2 := flat_cells (h0 _ i y hi hy)
        refine agg_flat ?_
        intro v hv
        rw [Array.mem_toList_iff, Array.mem_flatten] at hv
        obtain ⟨xs, hxs, hv⟩ := hv
        rw [Array.mem_replicate] at hxs
        rw [hxs.2] at hv
        exact h2 v (by simpa using hv)
  · exact reckonStruct_zero h0 h hz
  · cases h
theorem infoAt_zero {T : Tables} (h0 : ∀ (t : TypeId) (i : TypeInfo) (z : Value), T.types[t]? = some i → i.zero = some z → Dflat z) : ∀ (f : Nat) (t : TypeId) (i : TypeInfo) (z : Value), Made.infoAt T f t = some i → i.zero = some z → Dflat z
  | 0, t, i, z, h, _ => by simp [Made.infoAt] at h
  | f + 1, t, i, z, h, hz => by
    simp only [Made.infoAt] at h
    split at h
    · exact h0 t i z h hz
    · rw [bind_some] at h
      obtain ⟨d, _, h⟩ := h
      exact reckon_zero (infoAt_zero h0 f) h hz
def pgB (P : Program) : Bool :=
  (P.types.toList.all fun i => match i.zero with | some z => flat z | none => true) &&
  P.funcs.toList.all fun fn => !fn.body.isSome || !(fn.name == "runtime.NumGoroutine")
theorem PG.of {P : Program} (h : pgB P = true) : PG P := by
  simp only [pgB, Bool.and_eq_true] at h
  have h0 : ∀ (t : TypeId) (i : TypeInfo) (z : Value), P.toTables.types[t]? = some i → i.zero = some z → Dflat z := fun t i z hi hz => by
    rw [← Array.getElem?_toList] at hi
    have := (List.all_eq_true.1 h.1) i (List.mem_of_getElem? hi)
    rw [hz] at this; exact word_flat this
  refine ⟨fun t z hz => ?_, fun f fn hf hb => ?_⟩
  · unfold zeroOf Tables.info? at hz
    rw [bind_some] at hz
    obtain ⟨i, hi, hz⟩ := hz
    split at hi
    · exact h0 t i z hi hz
    · exact infoAt_zero h0 _ t i z hi hz
  · have hm : fn ∈ P.funcs.toList := by
      rw [← Array.getElem?_toList] at hf
      exact List.mem_of_getElem? hf
    have := (List.all_eq_true.1 h.2) fn hm
    rw [hb] at this
    simpa using this
theorem St.start_hs (h : List (Option Bool)) (ρ : Nat → PB) (w : World) : Hs (St.start 0 .leaf h) ρ w := by
  refine ⟨⟨fun x o hx => ?_, fun x y o o' hx => ?_, fun x y o o' B hx => ?_⟩, fun _ _ => rfl, Nat.le_refl _, fun x hx => ?_⟩
  · simp [St.start, Tr.get] at hx
  · simp [St.start, Tr.get] at hx
  · simp [St.start, Tr.get] at hx
  · simp [St.start] at hx
theorem flats_vl {N : Nat → Prop} {ρ : Nat → PB} : ∀ {l : List Value}, l.all flat0 = true → VL N ρ l l
  | [], _ => VL.nil
  | v :: l, h => by
    simp only [List.all_cons, Bool.and_eq_true] at h
    exact VL.cons (.same h.1) (flats_vl h.2)
theorem ran {P : Program} (G : PG P) {K : Given} (hK : GivenOk P K) {n : Nat} {f : FuncId} {args : List Value} {orc : List (Option Bool)} {v : Value} {p : Prop}
    (hr : ((mk P K n).call f args (St.start 0 .leaf orc)).map (fun r => (r.1, r.2.obl)) = some (v, p)) (hp : p) (ha : args.all flat0 = true) (hv : flat0 v = true) (W : World) :
    Calls P f args.toArray W fun e w' => e = .returned v ∧ Go.RowKit.Below W.heap.size W w' := by
  cases hc : (mk P K n).call f args (St.start 0 .leaf orc) with
  | none => rw [hc] at hr; simp at hr
  | some r =>
    obtain ⟨v1, s'⟩ := r
    rw [hc] at hr
    simp only [Option.map_some, Option.some.injEq, Prod.mk.injEq] at hr
    obtain ⟨rfl, hs⟩ := hr
    have := (mk_ok G hK n).okCall hc (by rw [hs]; exact hp) 0 (fun _ => ⟨0, 0, 0⟩) W args (St.start_hs _ _ _) (flats_vl ha)
    refine (callsIn_wide.1 this).mono ?_
    rintro e w' ⟨v', ρ', rfl, g1, g2, g3⟩
    have : v' = v1 := g1.eq_flat0 hv
    refine ⟨by rw [this], ⟨g3.os, g3.tape, g3.output, g3.size, fun k hk => g3.frame k hk fun b o hb => by cases hb⟩⟩
end Go.Cln
