/- A determinate reading of Go's code: single operations. -/
import Derived.Test.YtpfmilkddapfiaaClnP2
namespace Go.Cln
set_option linter.unusedVariables false
set_option linter.unusedSimpArgs false
set_option linter.deprecated false
theorem bind_some {α β : Type} {x : Option α} {f : α → Option β} {b : β} : x.bind f = some b ↔ ∃ a, x = some a ∧ f a = some b := Option.bind_eq_some_iff
theorem run_underlying {P : Program} {t : TypeId} {d : TypeDesc} (h : P.underlying t = some d) (w : World) : (underlying t).run P w = .ok d w := by simp [underlying, h]
theorem run_typeInfo {P : Program} {t : TypeId} {i : TypeInfo} (h : P.info? t = some i) (w : World) : (typeInfo t).run P w = .ok i w := by simp [typeInfo, h]
theorem tsize_info {P : Program} {t : TypeId} {n : Nat} (h : tsize P t = some n) : ∃ i, P.info? t = some i ∧ i.size = n := by
  unfold tsize at h; rw [bind_some] at h; obtain ⟨i, hi, h⟩ := h; exact ⟨i, hi, by simpa using h⟩
theorem run_sizeOf {P : Program} {t : TypeId} {n : Nat} (h : tsize P t = some n) (w : World) : (sizeOf t).run P w = .ok n w := by
  obtain ⟨i, hi, rfl⟩ := tsize_info h; simp [sizeOf, run_typeInfo hi]
theorem run_zero {P : Program} {t : TypeId} {z : Value} (h : zeroOf P t = some z) (w : World) : (zeroValue t).run P w = .ok z w := by
  unfold zeroOf at h; rw [bind_some] at h; obtain ⟨i, hi, h⟩ := h; simp [zeroValue, run_typeInfo hi, h]
theorem run_isAgg {P : Program} {t : TypeId} {b : Bool} (h : isAggB P t = some b) (w : World) : (isAgg t).run P w = .ok b w := by
  unfold isAggB at h
  split at h
  · rename_i hu; simp at h; subst h; simp [isAgg, run_underlying hu]
  · rename_i hu; simp at h; subst h; simp [isAgg, run_underlying hu]
  · rename_i d h1 h2 hu; simp at h; subst h; simp only [isAgg, Sem.run_bind, run_underlying hu, Result.andThen_ok]
    cases d <;> first | rfl | (exact absurd hu (h1 _)) | (exact absurd hu (h2 _ _))
  · simp at h
theorem quiet_run {α : Type} {P : Program} {x : Sem α} : ∀ {a : α}, quiet P x = some a → ∀ w, x.run P w = .ok a w := by
  induction x with
  | pure a => intro b h w; simp [quiet] at h; subst h; rfl
  | program k ih => intro b h w; simp only [quiet] at h; simpa [Sem.run] using ih P h w
  | _ => intro b h; simp [quiet] at h
theorem ev_sound {N : Nat → Prop} {ρ : Nat → PB} {s : St} {a : Act} {x : Operand} {v : Value} (ht : VL N ρ s.tmps a.tmps.toList) (h : ev s x = some v) : VR N ρ v (a.eval x) := by
  cases x with
  | tmp t =>
    simp only [ev, getL_eq, Option.some.injEq] at h; subst h
    simp only [Act.eval]
    have e : a.tmps.getD t undef = a.tmps.toList.getD t undef := by simp [Array.getD_eq_getD_getElem?, List.getD_eq_getElem?_getD]
    rw [e, List.getD_eq_getElem?_getD, List.getD_eq_getElem?_getD]
    cases hv : s.tmps[t]? with
    | none =>
      have : a.tmps.toList[t]? = none := by rw [List.getElem?_eq_none_iff] at hv ⊢; rw [← ht.1]; exact hv
      rw [this]; exact VR.undef
    | some v => obtain ⟨w, hw, hr⟩ := ht.get hv; rw [hw]; exact hr
  | const v' => simp only [ev] at h; split at h <;> simp at h; subst h; rename_i hf; exact VR.of_flat hf
  | func f => simp only [ev, Option.some.injEq] at h; subst h; exact .same rfl
  | global g => simp [ev] at h
theorem evs_sound {N : Nat → Prop} {ρ : Nat → PB} {s : St} {a : Act} (ht : VL N ρ s.tmps a.tmps.toList) : ∀ {l : List Operand} {vs : List Value}, evs s l = some vs → VL N ρ vs (l.map a.eval)
  | [], vs, h => by simp [evs] at h; subst h; exact VL.nil
  | x :: l, vs, h => by
    simp only [evs, bind_some] at h
    obtain ⟨v, hv, r, hr, h⟩ := h
    simp at h; subst h
    exact VL.cons (ev_sound ht hv) (evs_sound ht hr)
theorem doFlat_sound {P : Program} {N : Nat → Prop} {ρ : Nat → PB} {s s' : St} {a : Act} {o : Oper} {v : Value} (hs : ∀ cs b, o.op ≠ .select cs b) (ht : VL N ρ s.tmps a.tmps.toList) (h : doFlat P s o = some (v, s')) :
    s' = s ∧ flat v = true ∧ ∀ w, (execOp a.eval o).run P w = .ok (.value v) w := by
  unfold doFlat at h
  split at h
  · rename_i hall
    split at h
    · rename_i v' hq
      split at h
      · rename_i hf
        simp at h; obtain ⟨rfl, rfl⟩ := h
        refine ⟨rfl, hf, fun w => ?_⟩
        rw [← execOp_congr (ρ := evD s) o hs fun x hx => ?_]
        · exact quiet_run hq w
        · have := List.all_eq_true.1 hall x (by simpa using hx)
          unfold evD
          split at this
          · rename_i u hu; rw [hu]; exact ((ev_sound ht hu).eq_flat this).symm
          · simp at this
      · simp at h
    · simp at h
  · simp at h
theorem intVal_some {v : Value} {n : Int} (h : intVal v = some n) : ∃ k, v = .int k n := by
  cases v <;> simp [intVal] at h; subst h; exact ⟨_, rfl⟩
theorem getD_some {l : List Int} {i : Nat} (h : i < l.length) : l[i]? = some (l.getD i 0) := by
  rw [List.getD_eq_getElem?_getD, List.getElem?_eq_getElem h]; rfl
theorem intsOf_eq {k : IntKind} : ∀ {vs : List Value} {r : List Int}, intsOf k vs = some r → vs = r.map (Value.int k)
  | [], r, h => by simp [intsOf] at h; subst h; rfl
  | v :: vs, r, h => by
    cases v with
    | int k' n =>
      simp only [intsOf] at h
      split at h
      · rename_i e
        rw [bind_some] at h
        obtain ⟨r', h1, h⟩ := h
        cases h
        rw [intsOf_eq h1, e]; rfl
      · cases h
    | _ => simp [intsOf] at h
theorem layI_get {l r : List Int} {o : Nat} (h : o + r.length ≤ l.length) (i : Nat) : (layI l o r)[i]? = if o ≤ i ∧ i < o + r.length then r[i - o]? else l[i]? := by
  unfold layI
  have ht : (l.take o).length = o := by simp; omega
  by_cases h1 : i < o
  · rw [if_neg (by omega), List.getElem?_append_left (by omega), List.getElem?_take, if_pos h1]
  · rw [List.getElem?_append_right (by omega), ht]
    by_cases h2 : i < o + r.length
    · rw [if_pos (by omega), List.getElem?_append_left (by omega)]
    · rw [if_neg (by omega), List.getElem?_append_right (by omega), List.getElem?_drop]
      congr 1
      omega
theorem rowPart_spec {s s' : St} {n w o k : Nat} {g : Nat → List Value} {l : List Value} (h : rowPart s n w g o k = some (l, s')) :
    Like s s' ∧ s'.tmps = s.tmps ∧ s'.defers = s.defers ∧ l.length = k ∧ (s'.obl → s.obl ∧ ∀ i, i < k → (Cells.rows n w g).get (o + i) = l[i]?) := by
  unfold rowPart at h
  split at h
  · rw [bind_some] at h
    obtain ⟨r, hr, h⟩ := h
    split at h
    · rename_i hc
      simp only [Option.some.injEq, Prod.mk.injEq] at h
      obtain ⟨rfl, rfl⟩ := h
      refine ⟨⟨rfl, rfl, rfl, rfl, rfl⟩, rfl, rfl, by simp; omega, fun ho => ⟨ho.1, fun i hi => ?_⟩⟩
      obtain ⟨_, h1, h2⟩ := ho
      have hw : 0 < w := by omega
      have e := Nat.div_add_mod o w
      have hlt : o % w + i < w := by omega
      have d : (o + i) / w = o / w := by
        rw [← e, Nat.add_assoc, Nat.mul_add_div hw, Nat.div_eq_of_lt hlt, Nat.add_zero, Nat.mul_add_div hw, Nat.div_eq_of_lt (Nat.mod_lt _ hw), Nat.add_zero]
      have m : (o + i) % w = r.1 + i := by
        rw [← h1, ← e, Nat.add_assoc, Nat.mul_add_mod, Nat.mod_eq_of_lt hlt, Nat.mul_add_mod, Nat.mod_eq_of_lt (Nat.mod_lt _ hw)]
      simp only [Cells.get, d, m]
      rw [if_pos h2, List.getElem?_take, if_pos hi, List.getElem?_drop]
    · cases h
  · cases h
theorem cells_read1 {s s' : St} {c : Cells} {o : Nat} {v : Value} (h : c.read1 s o = some (v, s')) : Like s s' ∧ s'.tmps = s.tmps ∧ s'.defers = s.defers ∧ (s'.obl → s.obl ∧ c.get o = some v) := by
  cases c with
  | lit l =>
    simp only [Cells.read1] at h
    split at h
    · rename_i x hx; simp at h; obtain ⟨rfl, rfl⟩ := h; exact ⟨Like.refl _, rfl, rfl, fun k => ⟨k, hx⟩⟩
    · simp at h
  | fam n f =>
    simp only [Cells.read1, bind_some] at h
    obtain ⟨s1, h1, h⟩ := h
    simp at h; obtain ⟨rfl, rfl⟩ := h
    obtain ⟨a, b, c, d⟩ := St.need_spec h1
    exact ⟨a, b, c, fun k => ⟨(d k).1, by simp [Cells.get, (d k).2]⟩⟩
  | rows n w g =>
    simp only [Cells.read1, bind_some] at h
    obtain ⟨⟨l, s1⟩, h1, h⟩ := h
    obtain ⟨a, b, c, d, e⟩ := rowPart_spec h1
    cases l with
    | nil => cases h
    | cons x l =>
      simp only [Option.some.injEq, Prod.mk.injEq] at h
      obtain ⟨rfl, rfl⟩ := h
      exact ⟨a, b, c, fun k => ⟨(e k).1, by have := (e k).2 0 (by omega); simpa using this⟩⟩
  | ints k l =>
    simp only [Cells.read1, bind_some] at h
    obtain ⟨s1, h1, h⟩ := h
    simp only [Option.some.injEq, Prod.mk.injEq] at h; obtain ⟨rfl, rfl⟩ := h
    obtain ⟨a, b, c, d⟩ := St.need_spec h1
    exact ⟨a, b, c, fun k => ⟨(d k).1, by simp only [Cells.get]; rw [getD_some (d k).2]; rfl⟩⟩
theorem famList_get (f : Nat → Value) : ∀ (n o i : Nat), (famList f o n)[i]? = if i < n then some (f (o + i)) else none
  | 0, o, i => by simp [famList]
  | n + 1, o, i => by
    cases i with
    | zero => simp [famList]
    | succ i => simp only [famList, List.getElem?_cons_succ, famList_get f n (o + 1) i]; simp [Nat.add_assoc, Nat.add_comm 1 i]
theorem famList_length (f : Nat → Value) : ∀ (n o : Nat), (famList f o n).length = n
  | 0, _ => rfl
  | n + 1, o => by simp [famList, famList_length f n]
theorem cells_readN {s s' : St} {c : Cells} {o n : Nat} {l : List Value} (h : c.readN s o n = some (l, s')) : Like s s' ∧ s'.tmps = s.tmps ∧ s'.defers = s.defers ∧ l.length = n ∧ (s'.obl → s.obl ∧ ∀ i, i < n → c.get (o + i) = l[i]?) := by
  cases c with
  | lit r =>
    simp only [Cells.readN] at h
    split at h
    · rename_i hle; simp at h; obtain ⟨rfl, rfl⟩ := h
      exact ⟨Like.refl _, rfl, rfl, by simp; omega, fun k => ⟨k, fun i hi => by simp [Cells.get, List.getElem?_take, hi]⟩⟩
    · simp at h
  | fam m f =>
    simp only [Cells.readN, bind_some] at h
    obtain ⟨s1, h1, h⟩ := h
    simp at h; obtain ⟨rfl, rfl⟩ := h
    obtain ⟨a, b, c, d⟩ := St.need_spec h1
    exact ⟨a, b, c, famList_length f n o, fun k => ⟨(d k).1, fun i hi => by have := (d k).2; simp [Cells.get, famList_get, hi]; omega⟩⟩
  | rows m w g => exact rowPart_spec h
  | ints kd r =>
    simp only [Cells.readN, bind_some] at h
    obtain ⟨s1, h1, h⟩ := h
    simp only [Option.some.injEq, Prod.mk.injEq] at h; obtain ⟨rfl, rfl⟩ := h
    obtain ⟨a, b, c, d⟩ := St.need_spec h1
    refine ⟨a, b, c, famList_length _ n o, fun k => ⟨(d k).1, fun i hi => ?_⟩⟩
    have := (d k).2
    simp only [Cells.get]
    rw [famList_get, if_pos hi, getD_some (by omega)]; rfl
theorem setAll_get : ∀ (vs l : List Value) (o i : Nat), o + vs.length ≤ l.length → (setAll l o vs)[i]? = if o ≤ i ∧ i < o + vs.length then vs[i - o]? else l[i]?
  | [], l, o, i, _ => by simp [setAll]; intro h1 h2; omega
  | v :: vs, l, o, i, h => by
    simp only [setAll]
    simp only [List.length_cons] at h
    rw [setAll_get vs (l.set o v) (o + 1) i (by simp; omega)]
    by_cases h1 : i = o
    · subst h1
      rw [if_neg (by omega), if_pos (by simp), List.getElem?_set_self (by omega)]; simp
    · by_cases h2 : o + 1 ≤ i ∧ i < o + 1 + vs.length
      · rw [if_pos h2, if_pos (by simp; omega)]
        obtain ⟨j, rfl⟩ : ∃ j, i = o + 1 + j := ⟨i - (o + 1), by omega⟩
        have e1 : o + 1 + j - (o + 1) = j := by omega
        have e2 : o + 1 + j - o = j + 1 := by omega
        rw [e1, e2]; simp
      · rw [if_neg h2, if_neg (by simp; omega), List.getElem?_set_ne (fun e => h1 e.symm)]
theorem putL_get (vs l : List Value) (o i : Nat) (h : o + vs.length ≤ l.length) : (putL l o vs)[i]? = if o ≤ i ∧ i < o + vs.length then vs[i - o]? else l[i]? := by
  match vs, h with
  | [], h => exact setAll_get [] l o i h
  | [v], h => exact setAll_get [v] l o i h
  | v :: u :: r, h =>
    simp only [List.length_cons] at h
    simp only [putL, List.length_cons]
    have ht : (l.take o).length = o := by simp; omega
    by_cases h1 : i < o
    · rw [if_neg (by omega), List.getElem?_append_left (by omega), List.getElem?_take, if_pos h1]
    · rw [List.getElem?_append_right (by omega), ht]
      by_cases h2 : i < o + (r.length + 1 + 1)
      · rw [if_pos (by omega), List.getElem?_append_left (by simp; omega)]
      · rw [if_neg (by omega), List.getElem?_append_right (by simp; omega), List.getElem?_drop]
        congr 1
        simp; omega
theorem famSet_get : ∀ (vs : List Value) (f : Nat → Value) (o i : Nat), famSet f o vs i = if o ≤ i ∧ i < o + vs.length then (vs[i - o]?).getD undef else f i
  | [], f, o, i => by simp [famSet]; intro h1 h2; omega
  | v :: vs, f, o, i => by
    simp only [famSet]
    rw [famSet_get vs _ (o + 1) i]
    by_cases h1 : i = o
    · subst h1
      rw [if_neg (by omega), if_pos (by simp)]; simp
    · by_cases h2 : o + 1 ≤ i ∧ i < o + 1 + vs.length
      · rw [if_pos h2, if_pos (by simp; omega)]
        obtain ⟨j, rfl⟩ : ∃ j, i = o + 1 + j := ⟨i - (o + 1), by omega⟩
        have e1 : o + 1 + j - (o + 1) = j := by omega
        have e2 : o + 1 + j - o = j + 1 := by omega
        rw [e1, e2]; simp
      · rw [if_neg h2]; simp only [List.length_cons]; rw [if_neg (show ¬ (o ≤ i ∧ i < o + (vs.length + 1)) by omega), if_neg h1]
theorem row_at {o w c k i : Nat} (hw : c + k ≤ w) (hc : o % w = c) (hi : i < k) : (o + i) / w = o / w ∧ (o + i) % w = c + i := by
  have hp : 0 < w := by omega
  have e := Nat.div_add_mod o w
  have hlt : o % w + i < w := by omega
  refine ⟨?_, ?_⟩
  · rw [← e, Nat.add_assoc, Nat.mul_add_div hp, Nat.div_eq_of_lt hlt, Nat.add_zero, Nat.mul_add_div hp, Nat.div_eq_of_lt (Nat.mod_lt _ hp), Nat.add_zero]
  · rw [← hc, ← e, Nat.add_assoc, Nat.mul_add_mod, Nat.mod_eq_of_lt hlt, Nat.mul_add_mod, Nat.mod_eq_of_lt (Nat.mod_lt _ hp)]
theorem cells_write {s s' : St} {c c' : Cells} {o : Nat} {vs : List Value} (h : c.write s o vs = some (c', s')) : Like s s' ∧ s'.tmps = s.tmps ∧ s'.defers = s.defers ∧
    (s'.obl → s.obl ∧ (∀ i, i < vs.length → ∃ x, c.get (o + i) = some x) ∧ ∀ i, c'.get i = if o ≤ i ∧ i < o + vs.length then vs[i - o]? else c.get i) := by
  cases c with
  | lit r =>
    simp only [Cells.write] at h
    split at h
    · rename_i hle; simp at h; obtain ⟨rfl, rfl⟩ := h
      refine ⟨Like.refl _, rfl, rfl, fun k => ⟨k, fun i hi => ?_, fun i => by simp only [Cells.get]; exact putL_get vs r o i hle⟩⟩
      have : o + i < r.length := by omega
      exact ⟨r[o + i], by simp [Cells.get, this]⟩
    · simp at h
  | fam m f =>
    simp only [Cells.write, bind_some] at h
    obtain ⟨s1, h1, h⟩ := h
    simp at h; obtain ⟨rfl, rfl⟩ := h
    obtain ⟨a, b, c, d⟩ := St.need_spec h1
    refine ⟨a, b, c, fun k => ⟨(d k).1, fun i hi => ⟨f (o + i), by have := (d k).2; simp only [Cells.get]; rw [if_pos (by omega)]⟩, fun i => ?_⟩⟩
    have hle := (d k).2
    simp only [Cells.get]
    rw [famSet_get]
    by_cases h2 : o ≤ i ∧ i < o + vs.length
    · have h3 : i - o < vs.length := by omega
      rw [if_pos h2, if_pos h2, if_pos (by omega)]; simp [h3]
    · rw [if_neg h2, if_neg h2]
  | rows m w g =>
    simp only [Cells.write, rowPut] at h
    split at h
    · rw [bind_some] at h
      obtain ⟨r, hr, h⟩ := h
      split at h
      · rename_i hc
        simp only [Option.some.injEq, Prod.mk.injEq] at h
        obtain ⟨rfl, rfl⟩ := h
        refine ⟨⟨rfl, rfl, rfl, rfl, rfl⟩, rfl, rfl, fun ho => ⟨ho.1, fun i hi => ?_, fun i => ?_⟩⟩
        · obtain ⟨d, m⟩ := row_at hc.1 ho.2.1 hi
          exact ⟨(g (o / w))[r.1 + i]'(by omega), by simp only [Cells.get, d, m]; rw [if_pos ho.2.2]; exact List.getElem?_eq_getElem _⟩
        · obtain ⟨_, h1, h2⟩ := ho
          simp only [Cells.get, rowSet]
          have e := Nat.div_add_mod o w
          have e2 := Nat.div_add_mod i w
          by_cases hj : i / w = o / w
          · rw [hj, if_pos h2, show (o / w).beq (o / w) = true from Nat.beq_refl _]
            show (putL (g (o / w)) r.1 vs)[i % w]? = if o ≤ i ∧ i < o + vs.length then vs[i - o]? else if o / w < m then (g (o / w))[i % w]? else none
            rw [if_pos h2, putL_get vs _ _ _ hc.2]
            rw [hj] at e2
            by_cases hi : o ≤ i ∧ i < o + vs.length
            · rw [if_pos hi, if_pos (by omega)]
              congr 1; omega
            · rw [if_neg hi, if_neg (by omega)]
          · rw [show (i / w).beq (o / w) = false from Bool.eq_false_iff.2 fun e => hj (Nat.eq_of_beq_eq_true e)]
            refine (if_neg (c := o ≤ i ∧ i < o + vs.length) ?_).symm
            rintro ⟨h3, h4⟩
            obtain ⟨d, _⟩ := row_at (i := i - o) hc.1 h1 (by omega)
            rw [show o + (i - o) = i by omega] at d
            exact hj d
      · cases h
    · cases h
  | ints kd r =>
    simp only [Cells.write, bind_some] at h
    obtain ⟨s1, h1, x, hx, h⟩ := h
    obtain ⟨a, b, c, d⟩ := St.need_spec h1
    have ev := intsOf_eq hx
    have hlen : vs.length = x.length := by rw [ev]; simp
    have main : (∀ i, (Cells.ints kd (layI r o x)).get i = c'.get i) ∨ c' = .ints kd (layI r o x) ∨ ∃ n, x = [n] ∧ c' = .ints kd (r.set o n) := by
      split at h
      · simp only [Option.some.injEq, Prod.mk.injEq] at h; obtain ⟨rfl, rfl⟩ := h; exact .inr (.inr ⟨_, rfl, rfl⟩)
      · simp only [Option.some.injEq, Prod.mk.injEq] at h; obtain ⟨rfl, rfl⟩ := h; exact .inr (.inl rfl)
    have hs1 : s1 = s' := by
      split at h
      · simp only [Option.some.injEq, Prod.mk.injEq] at h; exact h.2
      · simp only [Option.some.injEq, Prod.mk.injEq] at h; exact h.2
    subst hs1
    refine ⟨a, b, c, fun k => ⟨(d k).1, fun i hi => ?_, fun i => ?_⟩⟩
    · have := (d k).2
      exact ⟨.int kd (r.getD (o + i) 0), by simp only [Cells.get]; rw [getD_some (by omega)]; rfl⟩
    · have hle := (d k).2
      have lay : (Cells.ints kd (layI r o x)).get i = if o ≤ i ∧ i < o + vs.length then vs[i - o]? else (Cells.ints kd r).get i := by
        simp only [Cells.get]
        rw [layI_get (by omega), hlen]
        split
        · rw [ev, List.getElem?_map]
        · rfl
      rcases main with hm | rfl | ⟨n, rfl, rfl⟩
      · rw [← hm]; exact lay
      · exact lay
      · rw [← lay]
        simp only [Cells.get]
        rw [layI_get (by omega), List.getElem?_set]
        simp only [List.length_cons, List.length_nil] at hlen ⊢
        by_cases e : o = i
        · subst e
          rw [if_pos rfl, if_pos (by omega), if_pos (by omega)]; simp
        · rw [if_neg e, if_neg (by omega)]
theorem Hs.cells {s : St} {ρ : Nat → PB} {w : World} (hs : Hs s ρ w) {b : Nat} {c : Cells} {t : TypeId} (h : s.heap.get b = some (.cells c t)) :
    ∃ pc t' fr, w.heap[(ρ b).blk]? = some (.cells pc t' fr) ∧ pc.size = (ρ b).len ∧ (s.roB ≤ b → FrOk fr pc.size) ∧ Dm s b ∧ ∀ (i : Nat) (v : Value), c.get i = some v → ∃ v', pc[(ρ b).off + i]? = some v' ∧ VR (Dm s) ρ v v' := by
  obtain ⟨h1, pc, t', fr, h2, h3, h4, h5⟩ := hs.ob b _ h
  exact ⟨pc, t', fr, h2, h3, h4, h1, h5⟩
theorem part_cells {N : Nat → Prop} {ρ : Nat → PB} {c : Cells} {pc : Array Value} {p o n : Nat} {l : List Value} (hc : ∀ (i : Nat) (v : Value), c.get i = some v → ∃ v', pc[p + i]? = some v' ∧ VR N ρ v v')
    (hl : l.length = n) (hg : ∀ i, i < n → c.get (o + i) = l[i]?) : (n = 0 ∨ p + o + n ≤ pc.size) ∧ VL N ρ l ((pc.toList.drop (p + o)).take n) := by
  have key : ∀ i, i < n → ∃ v v', l[i]? = some v ∧ pc[p + o + i]? = some v' ∧ VR N ρ v v' := fun i hi => by
    have h1 : i < l.length := by omega
    have h2 := hg i hi
    rw [List.getElem?_eq_getElem h1] at h2
    obtain ⟨v', h3, h4⟩ := hc (o + i) _ h2
    exact ⟨l[i], v', by simp [h1], by rw [Nat.add_assoc]; exact h3, h4⟩
  have hsz : n = 0 ∨ p + o + n ≤ pc.size := by
    rcases Nat.eq_zero_or_pos n with h | h
    · exact .inl h
    · obtain ⟨v, v', _, h3, _⟩ := key (n - 1) (by omega)
      right
      rcases Nat.lt_or_ge (p + o + (n - 1)) pc.size with h4 | h4
      · omega
      · simp [Array.getElem?_eq_none h4] at h3
  refine ⟨hsz, ?_, fun i v w hv hw => ?_⟩
  · rw [List.length_take, List.length_drop, hl]; simp only [Array.length_toList]; omega
  · have hi : i < n := by
      rcases Nat.lt_or_ge i l.length with h | h
      · omega
      · simp [List.getElem?_eq_none h] at hv
    obtain ⟨x, x', h1, h2, h3⟩ := key i hi
    rw [h1] at hv; cases hv
    rw [List.getElem?_take, if_pos hi, List.getElem?_drop, Array.getElem?_toList, h2] at hw
    cases hw; exact h3
theorem Hs.absCells {s : St} {g B : Nat} {c : Cells} {ρ : Nat → PB} {w : World} (hs : Hs s ρ w) (h : absMem s g B = some c) :
    (∃ pc t fr, w.heap[blkOf B]? = some (.cells pc t fr) ∧ ∀ (i : Nat) (v : Value), c.get i = some v → ∃ v', pc[baseOf B + i]? = some v' ∧ VR (Dm s) ρ v v') ∨ ∀ i, c.get i = none := by
  unfold absMem at h
  split at h
  · rename_i F hF
    cases h
    obtain ⟨_, _, k⟩ := hs.ob 0 _ hF
    by_cases he : ∃ i v, (F g B).get i = some v
    · obtain ⟨i, v, hv⟩ := he
      obtain ⟨pc, t, fr, v', k1, _⟩ := k g B i v hv
      refine .inl ⟨pc, t, fr, k1, fun j u hu => ?_⟩
      obtain ⟨pc2, t2, fr2, u', q1, q2, q3, _⟩ := k g B j u hu
      rw [k1] at q1; cases q1
      exact ⟨u', q2, q3⟩
    · refine .inr fun i => ?_
      cases hg : (F g B).get i with
      | none => rfl
      | some v => exact absurd ⟨i, v, hg⟩ he
  · cases h
theorem Hs.absPart {P : Program} {s : St} {g B o n : Nat} {c : Cells} {l : List Value} {ρ : Nat → PB} {w : World} (hs : Hs s ρ w) (h : absMem s g B = some c) (hl : l.length = n) (hg : ∀ i, i < n → c.get (o + i) = l[i]?) :
    ∃ l', VL (Dm s) ρ l l' ∧ ∀ w2 : World, w2.heap = w.heap → (loadCells ⟨blkOf B, baseOf B + o, none⟩ n).run P w2 = .ok l'.toArray w2 := by
  rcases hs.absCells h with ⟨pc, t, fr, k1, k2⟩ | k
  · obtain ⟨hle, hv⟩ := part_cells k2 hl hg
    refine ⟨_, hv, fun w2 hw2 => ?_⟩
    rcases hle with e0 | hle
    · rw [e0]; simp [loadCells, loadCellsFrom]
    · exact run_loads P _ _ _ (by rw [hw2]; exact k1) hle
  · have h0 : n = 0 := by
      rcases Nat.eq_zero_or_pos n with e | e
      · exact e
      · have := hg 0 e
        rw [k, List.getElem?_eq_getElem (by omega)] at this; cases this
    subst h0
    have : l = [] := List.eq_nil_of_length_eq_zero hl
    subst this
    exact ⟨[], VL.nil, fun w2 _ => by simp [loadCells, loadCellsFrom]⟩
theorem absLoad_sound {P : Program} {s s' : St} {t : TypeId} {g B o : Nat} {v : Value} {ρ : Nat → PB} {w : World} (h : absLoad P s t g B o = some (v, s')) (ho : s'.obl) (hs : Hs s ρ w) :
    isAbs (some g) = true ∧ ∃ v', (Instr.loadAt t (.pointer (some ⟨blkOf B, baseOf B + o, none⟩))).run P w = .ok v' w ∧ VR (Dm s) ρ v v' := by
  unfold absLoad at h
  split at h
  · rename_i hg
    refine ⟨hg, ?_⟩
    rw [bind_some] at h
    obtain ⟨c, hm, h⟩ := h
    split at h
    · rename_i n hag hsz
      rw [bind_some] at h
      obtain ⟨r, hr, h⟩ := h
      simp at h; obtain ⟨rfl, rfl⟩ := h
      obtain ⟨_, _, _, hl, hgt⟩ := cells_readN hr
      obtain ⟨l', hv, hrun⟩ := hs.absPart (P := P) hm hl (hgt ho).2
      refine ⟨.agg l'.toArray, ?_, .agg hv.1 hv.2⟩
      simp only [Instr.loadAt, Instr.sureAddr, Sem.run_bind, Sem.run_pure, Result.andThen_ok, loadVar, run_isAgg hag, if_true, run_sizeOf hsz]
      rw [hrun w rfl]; simp
    · rename_i hag
      obtain ⟨_, _, _, hgt⟩ := cells_read1 h
      rcases hs.absCells hm with ⟨pc, ty, fr, h1, h5⟩ | k
      · obtain ⟨v', h6, h7⟩ := h5 _ _ (hgt ho).2
        refine ⟨v', ?_, h7⟩
        simp only [Instr.loadAt, Instr.sureAddr, Sem.run_bind, Sem.run_pure, Result.andThen_ok, loadVar, run_isAgg hag]
        simp [cell_at h1, h6]
      · have := (hgt ho).2
        rw [k] at this; cases this
    · simp at h
  · cases h
theorem absLoad_like {P : Program} {s s' : St} {t : TypeId} {g B o : Nat} {v : Value} (h : absLoad P s t g B o = some (v, s')) : Like s s' ∧ s'.tmps = s.tmps ∧ s'.defers = s.defers ∧ (s'.obl → s.obl) := by
  unfold absLoad at h
  split at h
  · rw [bind_some] at h
    obtain ⟨c, hm, h⟩ := h
    split at h
    · rw [bind_some] at h
      obtain ⟨r, hr, h⟩ := h
      simp at h; obtain ⟨rfl, rfl⟩ := h
      obtain ⟨a, b, c, _, d⟩ := cells_readN hr
      exact ⟨a, b, c, fun k => (d k).1⟩
    · obtain ⟨a, b, c, d⟩ := cells_read1 h
      exact ⟨a, b, c, fun k => (d k).1⟩
    · simp at h
  · cases h
theorem doLoad_sound {P : Program} {s s' : St} {t : TypeId} {a a' v : Value} {ρ : Nat → PB} {w : World} (h : doLoad P s t a = some (v, s')) (ho : s'.obl) (hs : Hs s ρ w) (ha : VR (Dm s) ρ a a') :
    ∃ v', (Instr.loadAt t a').run P w = .ok v' w ∧ VR (Dm s) ρ v v' := by
  unfold doLoad at h
  split at h
  · rename_i b o
    split at h
    · rename_i c ty hb
      obtain ⟨pc, t', fr, h1, h2, _, h4, h5⟩ := hs.cells hb
      cases ha with
      | same hf => simp [flat0] at hf
      | ptr hlt =>
        split at h
        · rename_i n hag hsz
          rw [bind_some] at h
          obtain ⟨r, hr, h⟩ := h
          simp at h; obtain ⟨rfl, rfl⟩ := h
          obtain ⟨_, _, _, hl, hg⟩ := cells_readN hr
          obtain ⟨hle, hv⟩ := part_cells h5 hl (hg ho).2
          refine ⟨.agg ((pc.toList.drop ((ρ b).off + o)).take n).toArray, ?_, .agg hv.1 hv.2⟩
          simp only [Instr.loadAt, Instr.sureAddr, Sem.run_bind, Sem.run_pure, Result.andThen_ok, loadVar, run_isAgg hag, if_true, run_sizeOf hsz]
          rcases hle with rfl | hle
          · simp [loadCells, loadCellsFrom]
          · rw [run_loads P _ _ _ h1 hle]; simp
        · rename_i hag
          obtain ⟨_, _, _, hg⟩ := cells_read1 h
          obtain ⟨v', h6, h7⟩ := h5 _ _ (hg ho).2
          refine ⟨v', ?_, h7⟩
          simp only [Instr.loadAt, Instr.sureAddr, Sem.run_bind, Sem.run_pure, Result.andThen_ok, loadVar, run_isAgg hag]
          simp [cell_at h1, h6]
        · simp at h
    · simp at h
  · rename_i b o g
    obtain ⟨k1, k2⟩ := absLoad_sound h ho hs
    cases ha with
    | same hf => simp [flat0] at hf
    | absP _ _ => exact k2
  · simp at h
theorem doLoad_like {P : Program} {s s' : St} {t : TypeId} {a v : Value} (h : doLoad P s t a = some (v, s')) : Like s s' ∧ s'.tmps = s.tmps ∧ s'.defers = s.defers ∧ (s'.obl → s.obl) := by
  unfold doLoad at h
  split at h
  · split at h
    · split at h
      · rw [bind_some] at h
        obtain ⟨r, hr, h⟩ := h
        simp at h; obtain ⟨rfl, rfl⟩ := h
        obtain ⟨a, b, c, _, d⟩ := cells_readN hr
        exact ⟨a, b, c, fun k => (d k).1⟩
      · obtain ⟨a, b, c, d⟩ := cells_read1 h
        exact ⟨a, b, c, fun k => (d k).1⟩
      · simp at h
    · simp at h
  · exact absLoad_like h
  · simp at h
end Go.Cln
