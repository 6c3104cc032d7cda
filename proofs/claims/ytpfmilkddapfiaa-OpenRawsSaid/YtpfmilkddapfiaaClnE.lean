/- A determinate reading of Go's code: structs held against each other. -/
import Derived.Test.YtpfmilkddapfiaaClnP9
import Derived.Laws.StructEq
namespace Go.Cln
set_option linter.unusedVariables false
set_option linter.unusedSimpArgs false
set_option linter.deprecated false
theorem sameNow_run {P : Program} {t : TypeId} {d : TypeDesc} {x y : Value} {b : Bool} (hu : P.underlying t = some d) (h : Instr.sameNow d x y = some b) (n : Nat) (w : World) : (Op.equalIn (n + 1) t x y).run P w = .ok b w := by
  unfold Instr.sameNow at h
  split at h
  · rename_i k a k' c
    split at h
    · rename_i hk; subst hk; simp at h; subst h
      simp [Op.equalIn, Sem.run_bind, run_underlying hu]
    · simp at h
  · rename_i a b; simp at h; subst h
    simp [Op.equalIn, Sem.run_bind, run_underlying hu]
  · rename_i a b; simp at h; subst h
    simp [Op.equalIn, Sem.run_bind, run_underlying hu]
  · simp at h
theorem part_run {P : Program} {t : TypeId} {xs : Array Value} {o : Nat} {a : Value} (h : partL P t xs.toList o = some a) (hf : xs.toList.all flat0 = true) : (∀ w, (part t xs o).run P w = .ok a w) ∧ flat1 a = true := by
  obtain ⟨v', e1, e2⟩ := partL_sound (P := P) (N := fun _ => True) (ρ := fun _ => ⟨0, 0, 0⟩) h (VL.of_forall fun v hv => .same (List.all_eq_true.1 hf v hv))
  have hfa : flat1 a = true := by
    unfold partL at h
    split at h
    · simp only [Option.some.injEq] at h; subst h
      simp only [flat1, List.all_eq_true]
      intro v hv
      exact List.all_eq_true.1 hf v (List.mem_of_mem_drop (List.mem_of_mem_take (by simpa using hv)))
    · have := List.all_eq_true.1 hf a (List.mem_of_getElem? h)
      cases a <;> first | exact this | simp [flat0] at this
    · simp at h
  have := e2.eq_flat1 hfa
  subst this
  exact ⟨fun w => by simpa using e1 w, hfa⟩
def EqOk (P : Program) (r : TypeId → Value → Value → St → Option (Bool × St)) (n : Nat) : Prop :=
  ∀ (t : TypeId) (x y : Value) (s s' : St) (b : Bool), flat1 x = true → flat1 y = true → r t x y s = some (b, s') → Like s s' ∧ s'.tmps = s.tmps ∧ s'.defers = s.defers ∧ (s'.obl → s.obl ∧ ∀ w, (Op.equalIn n t x y).run P w = .ok b w)
theorem eqFieldsC_sound {P : Program} {r : TypeId → Value → Value → St → Option (Bool × St)} {n : Nat} (hr : EqOk P r n) {xs ys : Array Value} (hx : xs.toList.all flat0 = true) (hy : ys.toList.all flat0 = true) :
    ∀ {fs : List Field} {s s' : St} {b : Bool}, eqFieldsC P r xs.toList ys.toList fs s = some (b, s') → Like s s' ∧ s'.tmps = s.tmps ∧ s'.defers = s.defers ∧ (s'.obl → s.obl ∧ ∀ w, (Op.eqFields n xs ys fs).run P w = .ok b w)
  | [], s, s', b, h => by
    simp [eqFieldsC] at h; obtain ⟨rfl, rfl⟩ := h
    exact ⟨.refl _, rfl, rfl, fun k => ⟨k, fun w => rfl⟩⟩
  | f :: fs, s, s', b, h => by
    simp only [eqFieldsC] at h
    split at h
    · rename_i hn
      obtain ⟨k1, k2, k3, k4⟩ := eqFieldsC_sound hr hx hy h
      exact ⟨k1, k2, k3, fun k => ⟨(k4 k).1, fun w => by simp [Op.eqFields, hn, (k4 k).2 w]⟩⟩
    · rename_i hn
      split at h
      · rename_i a c ha hc
        obtain ⟨pa, fa⟩ := part_run ha hx
        obtain ⟨pc, fc⟩ := part_run hc hy
        rw [bind_some] at h
        obtain ⟨⟨q, s1⟩, hq, h⟩ := h
        obtain ⟨k1, k2, k3, k4⟩ := hr _ _ _ _ _ _ fa fc hq
        simp only at h
        split at h
        · rename_i hq1
          subst hq1
          obtain ⟨j1, j2, j3, j4⟩ := eqFieldsC_sound hr hx hy h
          refine ⟨k1.trans j1, j2.trans k2, j3.trans k3, fun k => ?_⟩
          obtain ⟨o1, r1⟩ := j4 k
          obtain ⟨o0, r0⟩ := k4 o1
          exact ⟨o0, fun w => by simp [Op.eqFields, hn, Sem.run_bind, pa w, pc w, r0 w, r1 w]⟩
        · rename_i hq1
          have hq1 : q = false := by simpa using hq1
          subst hq1
          simp at h; obtain ⟨rfl, rfl⟩ := h
          refine ⟨k1, k2, k3, fun k => ?_⟩
          obtain ⟨o0, r0⟩ := k4 k
          exact ⟨o0, fun w => by simp [Op.eqFields, hn, Sem.run_bind, pa w, pc w, r0 w]⟩
      · simp at h
def eqRows (d : Nat) (elem : TypeId) (z : Nat) (xs ys : Array Value) : List Nat → Sem Bool
  | [] => pure true
  | i :: l => do
    let a ← part elem xs (i * z)
    let b ← part elem ys (i * z)
    let r ← Op.equalIn d elem a b
    if (!r) = true then pure false else eqRows d elem z xs ys l
theorem run_equalIn_array {P : Program} (w : World) (d : Nat) (t elem : TypeId) (len z : Nat) (xs ys : Array Value) (ht : P.underlying t = some (.array len elem)) (hz : tsize P elem = some z) :
    (Op.equalIn (d + 1) t (.agg xs) (.agg ys)).run P w = (eqRows d elem z xs ys (List.range' 0 len)).run P w := by
  simp only [Op.equalIn, Sem.run_bind, run_underlying ht, Result.andThen_ok, run_sizeOf hz]
  simp only [Std.Legacy.Range.forIn_eq_forIn_range', Std.Legacy.Range.size, Nat.sub_zero, Nat.add_sub_cancel, Nat.div_one]
  generalize List.range' 0 len = l
  clear ht
  induction l generalizing w with
  | nil => simp [eqRows]
  | cons i l ih =>
    simp only [List.forIn_cons, eqRows, Sem.run_bind, Sem.run_ite]
    generalize (part elem xs (i * z)).run P w = r1
    cases r1 with
    | ok a w1 =>
      simp only [Result.andThen_ok]
      generalize (part elem ys (i * z)).run P w1 = r2
      cases r2 with
      | ok b w2 =>
        simp only [Result.andThen_ok]
        generalize (Op.equalIn d elem a b).run P w2 = r3
        cases r3 with
        | ok r w3 =>
          cases r
          · simp only [Result.andThen_ok, Bool.not_false, if_true, Sem.run_pure]
          · simp only [Result.andThen_ok, Bool.not_true, Bool.false_eq_true, if_false, Sem.run_pure]
            exact ih w3
        | halt x w3 => simp [Result.andThen]
      | halt x w2 => simp [Result.andThen]
    | halt x w1 => simp [Result.andThen]
theorem eqRowsC_sound {P : Program} {r : TypeId → Value → Value → St → Option (Bool × St)} {n : Nat} (hr : EqOk P r n) {elem : TypeId} {z : Nat} {xs ys : Array Value} (hx : xs.toList.all flat0 = true) (hy : ys.toList.all flat0 = true) :
    ∀ {l : List Nat} {s s' : St} {b : Bool}, eqRowsC P r elem z xs.toList ys.toList l s = some (b, s') → Like s s' ∧ s'.tmps = s.tmps ∧ s'.defers = s.defers ∧ (s'.obl → s.obl ∧ ∀ w, (eqRows n elem z xs ys l).run P w = .ok b w)
  | [], s, s', b, h => by
    simp [eqRowsC] at h; obtain ⟨rfl, rfl⟩ := h
    exact ⟨.refl _, rfl, rfl, fun k => ⟨k, fun w => rfl⟩⟩
  | i :: l, s, s', b, h => by
    simp only [eqRowsC] at h
    split at h
    · rename_i a c ha hc
      obtain ⟨pa, fa⟩ := part_run ha hx
      obtain ⟨pc, fc⟩ := part_run hc hy
      rw [bind_some] at h
      obtain ⟨⟨q, s1⟩, hq, h⟩ := h
      obtain ⟨k1, k2, k3, k4⟩ := hr _ _ _ _ _ _ fa fc hq
      simp only at h
      split at h
      · rename_i hq1
        subst hq1
        obtain ⟨j1, j2, j3, j4⟩ := eqRowsC_sound hr hx hy h
        refine ⟨k1.trans j1, j2.trans k2, j3.trans k3, fun k => ?_⟩
        obtain ⟨o1, r1⟩ := j4 k
        obtain ⟨o0, r0⟩ := k4 o1
        exact ⟨o0, fun w => by simp [eqRows, Sem.run_bind, pa w, pc w, r0 w, r1 w]⟩
      · rename_i hq1
        have hq1 : q = false := by simpa using hq1
        subst hq1
        simp at h; obtain ⟨rfl, rfl⟩ := h
        refine ⟨k1, k2, k3, fun k => ?_⟩
        obtain ⟨o0, r0⟩ := k4 k
        exact ⟨o0, fun w => by simp [eqRows, Sem.run_bind, pa w, pc w, r0 w]⟩
    · simp at h
theorem eqV_sound {P : Program} (m : Nat) : ∀ n, EqOk P (eqV P n) (n + m)
  | 0 => fun _ _ _ _ _ _ _ _ h => by simp [eqV] at h
  | n + 1 => by
    intro t x y s s' b hx hy h
    have e : n + 1 + m = (n + m) + 1 := by omega
    rw [e]
    simp only [eqV] at h
    split at h
    · simp at h
    · rename_i d hu
      split at h
      · rename_i r hr
        obtain ⟨k1, k2, k3, k4⟩ := St.branch_spec h
        exact ⟨k1, k2, k3, fun k => ⟨(k4 k).1, fun w => by rw [← (k4 k).2]; exact sameNow_run hu hr _ w⟩⟩
      · split at h
        · rename_i fs xs ys _
          split at h
          · simp at h
          · rename_i hst
            have hst : P.stoodInHeld t = false := by simpa using hst
            have hx0 : xs.toList.all flat0 = true := by simpa [flat1] using hx
            have hy0 : ys.toList.all flat0 = true := by simpa [flat1] using hy
            obtain ⟨k1, k2, k3, k4⟩ := eqFieldsC_sound (eqV_sound m n) hx0 hy0 h
            have hfs : P.fieldsOf t = fs := by simp [Program.fieldsOf, hu]
            refine ⟨k1, k2, k3, fun k => ⟨(k4 k).1, fun w => ?_⟩⟩
            rw [run_equalIn_struct w (n + m) t xs ys (by rw [hfs]; exact hu) hst, hfs]
            exact (k4 k).2 w
        · rename_i len elem xs ys _
          rw [bind_some] at h
          obtain ⟨z, hz, h⟩ := h
          have hx0 : xs.toList.all flat0 = true := by simpa [flat1] using hx
          have hy0 : ys.toList.all flat0 = true := by simpa [flat1] using hy
          obtain ⟨k1, k2, k3, k4⟩ := eqRowsC_sound (eqV_sound m n) hx0 hy0 h
          refine ⟨k1, k2, k3, fun k => ⟨(k4 k).1, fun w => ?_⟩⟩
          rw [run_equalIn_array w (n + m) t elem len z xs ys hu hz]
          exact (k4 k).2 w
        · simp at h
theorem doEqAgg_sound {P : Program} {s s' : St} {neg : Bool} {t : TypeId} {x y x' y' v : Value} {N : Nat → Prop} {ρ : Nat → PB} {p q : Operand} (h : doEqAgg P s neg t x y = some (v, s')) (hx : VR N ρ x x') (hy : VR N ρ y y') :
    Like s s' ∧ s'.tmps = s.tmps ∧ s'.defers = s.defers ∧ (s'.obl → s.obl ∧ VR N ρ v v ∧ ∀ w, (do eqGuard (eqOp neg) t p q x' y'; binOp (eqOp neg) t x' y' : Sem Value).run P w = .ok v w) := by
  unfold doEqAgg at h
  split at h
  · rename_i xs ys
    split at h
    · rename_i hc
      simp only [Bool.and_eq_true, Bool.not_eq_true'] at hc
      obtain ⟨⟨hfx, hfy⟩, hg⟩ := hc
      have := hx.eq_flat1 hfx; subst this
      have := hy.eq_flat1 hfy; subst this
      rw [bind_some] at h
      obtain ⟨⟨b, s1⟩, he, h⟩ := h
      simp only [Option.some.injEq, Prod.mk.injEq] at h; obtain ⟨rfl, rfl⟩ := h
      obtain ⟨k1, k2, k3, k4⟩ := eqV_sound 9950 50 _ _ _ _ _ _ hfx hfy he
      refine ⟨k1, k2, k3, fun k => ⟨(k4 k).1, .same rfl, fun w => ?_⟩⟩
      have hr := (k4 k).2 w
      rw [Sem.run_bind, run_eqGuard_agg w _ t p q xs ys hg, Result.andThen_ok]
      cases neg
      · have := run_eql_struct (P := P) w t xs ys
        rw [show eqOp false = BinOp.eql from rfl, this, hr]; rfl
      · have := run_neq_struct (P := P) w t xs ys
        rw [show eqOp true = BinOp.neq from rfl, this, hr]; rfl
    · simp at h
  · simp at h
theorem doEqAgg_obl {P : Program} {s s' : St} {neg : Bool} {t : TypeId} {x y v : Value} (h : doEqAgg P s neg t x y = some (v, s')) : s'.obl → s.obl := by
  cases x with
  | agg xs => cases y with
    | agg ys =>
      have h2 := h
      unfold doEqAgg at h2
      simp only at h2
      split at h2
      · rename_i hc
        simp only [Bool.and_eq_true, Bool.not_eq_true'] at hc
        have := doEqAgg_sound (N := fun _ => True) (ρ := fun _ => ⟨0, 0, 0⟩) (p := .const undef) (q := .const undef) h (VR.of_flat1 hc.1.1) (VR.of_flat1 hc.1.2)
        exact fun k => (this.2.2.2 k).1
      · simp at h2
    | _ => simp [doEqAgg] at h
  | _ => simp [doEqAgg] at h
end Go.Cln
