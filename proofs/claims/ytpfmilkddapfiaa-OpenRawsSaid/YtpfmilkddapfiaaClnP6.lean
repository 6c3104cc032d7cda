/- A determinate reading of Go's code: aggregates, sources, copy, append, conversions, comparisons. -/
import Derived.Test.YtpfmilkddapfiaaClnP5
namespace Go.Cln
set_option linter.unusedVariables false
set_option linter.unusedSimpArgs false
set_option linter.deprecated false
theorem setAll_VL {N : Nat → Prop} {ρ : Nat → PB} : ∀ {vs vs' l l' : List Value} (o : Nat), VL N ρ l l' → VL N ρ vs vs' → VL N ρ (setAll l o vs) (setAll l' o vs')
  | [], vs', l, l', o, h, k => by rw [k.inv_nil]; exact h
  | v :: vs, vs', l, l', o, h, k => by
    obtain ⟨w, r, rfl, h1, h2⟩ := k.inv_cons
    exact setAll_VL (o + 1) (h.set o h1) h2
theorem fold_setAll : ∀ (vs : List Value) (cs : Array Value) (o : Nat) (j : Nat), ((vs.zipIdx j).foldl (fun cs (x : Value × Nat) => cs.setIfInBounds (o + x.2) x.1) cs).toList = setAll cs.toList (o + j) vs
  | [], cs, o, j => rfl
  | v :: vs, cs, o, j => by
    simp only [List.zipIdx_cons, List.foldl_cons, setAll]
    rw [fold_setAll vs _ o (j + 1)]
    simp [Nat.add_assoc]
theorem fill_sound {N : Nat → Prop} {ρ : Nat → PB} (place : Nat → Option (Nat × Nat)) : ∀ {vs vs' : List (Nat × Value)} {cs r : List Value} {cs' : Array Value}, fillL place cs vs = some r → VL N ρ cs cs'.toList →
    (vs.length = vs'.length ∧ ∀ (i : Nat) (x y : Nat × Value), vs[i]? = some x → vs'[i]? = some y → x.1 = y.1 ∧ VR N ρ x.2 y.2) → ∃ r', Instr.fill place cs' vs' = some r' ∧ VL N ρ r r'.toList
  | [], vs', cs, r, cs', h, hc, hv => by
    simp only [fillL, Option.some.injEq] at h; subst h
    have : vs' = [] := List.eq_nil_of_length_eq_zero hv.1.symm
    subst this
    exact ⟨cs', rfl, hc⟩
  | (i, v) :: vs, vs', cs, r, cs', h, hc, hv => by
    obtain ⟨⟨i', v'⟩, rest, rfl⟩ : ∃ x l, vs' = x :: l := by
      cases vs' with
      | nil => simp at hv
      | cons x l => exact ⟨x, l, rfl⟩
    obtain ⟨rfl, hvv⟩ := hv.2 0 (i, v) (i', v') (by simp) (by simp)
    simp only [fillL] at h
    simp only [Instr.fill]
    split at h
    · simp at h
    · rename_i off size hp
      split at h
      · simp at h
      · rename_i hcond
        have hcl := hvv.cells
        have hl := hcl.1
        simp only [Array.length_toList] at hl
        have hcs := hc.1
        simp only [Array.length_toList] at hcs
        rw [hp]
        simp only
        rw [if_neg (by simp only [Array.length_toList] at hcond; simp; omega)]
        refine fill_sound place h ?_ ⟨by simpa using hv.1, fun j x y hx hy => hv.2 (j + 1) x y (by simpa using hx) (by simpa using hy)⟩
        have := fold_setAll v'.cells.toList cs' off 0
        simp only [Nat.add_zero] at this
        rw [← Array.foldl_toList, Array.toList_zipIdx, this]
        exact setAll_VL off hc hcl
theorem evParts_sound {N : Nat → Prop} {ρ : Nat → PB} {s : St} {a : Act} (ht : VL N ρ s.tmps a.tmps.toList) : ∀ {l : List (Nat × Operand)} {vs : List (Nat × Value)}, evParts s l = some vs →
    vs.length = (l.map fun (x : Nat × Operand) => (x.1, a.eval x.2)).length ∧ ∀ (i : Nat) (x y : Nat × Value), vs[i]? = some x → (l.map fun (x : Nat × Operand) => (x.1, a.eval x.2))[i]? = some y → x.1 = y.1 ∧ VR N ρ x.2 y.2
  | [], vs, h => by simp [evParts] at h; subst h; exact ⟨rfl, fun i x y hx => by simp at hx⟩
  | (k, x) :: l, vs, h => by
    simp only [evParts, bind_some] at h
    obtain ⟨v, hv, r, hr, h⟩ := h
    simp at h; subst h
    obtain ⟨h1, h2⟩ := evParts_sound ht hr
    refine ⟨by simp [h1], fun i x y hx hy => ?_⟩
    cases i with
    | zero => simp at hx hy; subst hx; subst hy; exact ⟨rfl, ev_sound ht hv⟩
    | succ i => exact h2 i x y (by simpa using hx) (by simpa using hy)
theorem fieldPlaces_get {P : Program} : ∀ {l : List Field} {ps : List (Nat × Nat)}, fieldPlaces P l = some ps → ∀ w, (l.mapM fun f => do pure (f.offset, ← sizeOf f.type) : Sem (List (Nat × Nat))).run P w = .ok ps w
  | [], ps, h, w => by simp [fieldPlaces] at h; subst h; rfl
  | f :: l, ps, h, w => by
    simp only [fieldPlaces, bind_some] at h
    obtain ⟨n, hn, r, hr, h⟩ := h
    simp at h; subst h
    simp only [List.mapM_cons, Sem.run_bind, run_sizeOf hn, Result.andThen_ok, Sem.run_pure, fieldPlaces_get hr w]
theorem doBuild_sound {P : Program} {s s' : St} {t : TypeId} {parts : Array (Nat × Operand)} {v : Value} {N : Nat → Prop} {ρ : Nat → PB} {a : Act} (h : doBuild P s t parts.toList = some (v, s')) (ht : VL N ρ s.tmps a.tmps.toList)
    (hz : ∀ z, zeroOf P t = some z → Dflat z) :
    s' = s ∧ ∃ v', (∀ w, (Instr.build t (parts.map fun (i, x) => (i, a.eval x))).run P w = .ok v' w) ∧ VR N ρ v v' := by
  unfold doBuild at h
  rw [bind_some] at h
  obtain ⟨z, hz1, h⟩ := h
  rw [bind_some] at h
  obtain ⟨vs, hvs, h⟩ := h
  have hp := evParts_sound ht hvs
  have hzc : VL N ρ z.cells.toList z.cells.toList := (VR.of_dflat (hz z hz1)).cells
  have hpl : (parts.map fun (i, x) => (i, a.eval x)).toList = parts.toList.map fun (x : Nat × Operand) => (x.1, a.eval x.2) := by simp
  split at h
  · rename_i fs hu
    rw [bind_some] at h
    obtain ⟨ps, hps, h⟩ := h
    rw [bind_some] at h
    obtain ⟨l, hl, h⟩ := h
    simp at h; obtain ⟨rfl, rfl⟩ := h
    obtain ⟨r', e1, e2⟩ := fill_sound _ hl hzc hp
    refine ⟨rfl, .agg r', fun w => ?_, .agg e2.1 e2.2⟩
    have hm : ∀ w, (fs.mapM fun f => do pure (f.offset, ← sizeOf f.type) : Sem (Array (Nat × Nat))).run P w = .ok ps.toArray w := fun w => by
      rw [Array.mapM_eq_mapM_toList]; simp only [Sem.run_map, fieldPlaces_get hps w, Result.andThen_ok]
    simp only [Instr.build, Sem.run_bind, run_zero hz1, Result.andThen_ok, Sem.run_pure, run_underlying hu, hm, hpl]
    simp only [List.getElem?_toArray] at e1 ⊢
    rw [e1]; simp
  · rename_i n elem hu
    rw [bind_some] at h
    obtain ⟨m, hm, h⟩ := h
    rw [bind_some] at h
    obtain ⟨l, hl, h⟩ := h
    simp at h; obtain ⟨rfl, rfl⟩ := h
    obtain ⟨r', e1, e2⟩ := fill_sound _ hl hzc hp
    refine ⟨rfl, .agg r', fun w => ?_, .agg e2.1 e2.2⟩
    simp only [Instr.build, Sem.run_bind, run_zero hz1, Result.andThen_ok, Sem.run_pure, run_underlying hu, run_sizeOf hm, hpl, e1]
  · simp at h
theorem partL_sound {P : Program} {t : TypeId} {cs cs' : List Value} {off : Nat} {v : Value} {N : Nat → Prop} {ρ : Nat → PB} (h : partL P t cs off = some v) (hc : VL N ρ cs cs') :
    ∃ v', (∀ w, (part t cs'.toArray off).run P w = .ok v' w) ∧ VR N ρ v v' := by
  unfold partL at h
  split at h
  · rename_i n ha hn
    simp at h; subst h
    have := (hc.drop off).take n
    refine ⟨.agg ((cs'.drop off).take n).toArray, fun w => ?_, .agg this.1 this.2⟩
    simp only [part, Sem.run_bind, run_isAgg ha, Result.andThen_ok, if_true, run_sizeOf hn, Sem.run_pure]
    congr 2
    apply Array.ext'
    simp only [Array.toList_extract, List.extract_eq_drop_take, Nat.add_sub_cancel_left]
  · rename_i ha
    obtain ⟨w, hw, hr⟩ := hc.get h
    refine ⟨w, fun w0 => ?_, hr⟩
    simp only [part, Sem.run_bind, run_isAgg ha, Result.andThen_ok]
    simp [hw]
  · simp at h
theorem doField_sound {P : Program} {s s' : St} {t : TypeId} {x x' v : Value} {f : Nat} {N : Nat → Prop} {ρ : Nat → PB} (h : doField P s t x f = some (v, s')) (hx : VR N ρ x x') :
    s' = s ∧ ∃ v', (∀ w, (Instr.field t x' f).run P w = .ok v' w) ∧ VR N ρ v v' := by
  unfold doField at h
  split at h
  · rename_i fs cs hu
    split at h
    · rename_i fd hf
      rw [bind_some] at h
      obtain ⟨u, h1, h⟩ := h
      simp at h; obtain ⟨rfl, rfl⟩ := h
      cases hx with
      | same hf => simp [flat0] at hf
      | agg g1 g2 =>
        rename_i cs'
        obtain ⟨v', e1, e2⟩ := partL_sound h1 ⟨g1, g2⟩
        refine ⟨rfl, v', fun w => ?_, e2⟩
        simp only [Instr.field, Sem.run_bind, run_underlying hu, Result.andThen_ok, hf, asAgg, Sem.run_pure]
        simpa using e1 w
    · simp at h
  · simp at h
theorem doIndex_sound {P : Program} {s s' : St} {t : TypeId} {x x' ix v : Value} {N : Nat → Prop} {ρ : Nat → PB} (h : doIndex P s t x ix = some (v, s')) (hx : VR N ρ x x') :
    Like s s' ∧ s'.tmps = s.tmps ∧ s'.defers = s.defers ∧ (s'.obl → s.obl ∧ ∃ v', (∀ w, (Instr.index t x' ix).run P w = .ok v' w) ∧ VR N ρ v v') := by
  unfold doIndex at h
  split at h
  · rename_i len elem cs i hu hi
    obtain ⟨k, rfl⟩ := intVal_some hi
    split at h
    · rename_i n hn
      rw [bind_some] at h
      obtain ⟨s1, h1, h⟩ := h
      rw [bind_some] at h
      obtain ⟨u, h2, h⟩ := h
      simp at h; obtain ⟨rfl, rfl⟩ := h
      obtain ⟨a1, a2, a3, a4⟩ := St.need_spec h1
      refine ⟨a1, a2, a3, fun hob => ⟨(a4 hob).1, ?_⟩⟩
      obtain ⟨hb1, hb2⟩ := (a4 hob).2
      cases hx with
      | same hf => simp [flat0] at hf
      | agg g1 g2 =>
        rename_i cs'
        obtain ⟨v', e1, e2⟩ := partL_sound h2 ⟨g1, g2⟩
        refine ⟨v', fun w => ?_, e2⟩
        simp only [Instr.index, asIntOf, Sem.run_bind, Sem.run_pure, Result.andThen_ok, run_underlying hu, hb1, hb2, and_self, if_true, run_sizeOf hn]
        simpa using e1 w
    · simp at h
  · simp at h
theorem doExtract_sound {P : Program} {s s' : St} {x x' v : Value} {i : Nat} {N : Nat → Prop} {ρ : Nat → PB} (h : doExtract s x i = some (v, s')) (hx : VR N ρ x x') :
    s' = s ∧ ∃ v', (∀ w, (Instr.extract x' i).run P w = .ok v' w) ∧ VR N ρ v v' := by
  unfold doExtract at h
  split at h
  · rename_i vs
    split at h
    · rename_i u hu
      simp at h; obtain ⟨rfl, rfl⟩ := h
      cases hx with
      | same hf => simp [flat0] at hf
      | tup g1 g2 =>
        rename_i vs'
        obtain ⟨w, hw, hr⟩ := VL.get ⟨g1, g2⟩ hu
        refine ⟨rfl, w, fun w0 => ?_, hr⟩
        simp only [Array.getElem?_toList] at hw
        simp [Instr.extract, hw]
    · simp at h
  · simp at h
end Go.Cln
