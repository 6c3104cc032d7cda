/- Read off the code by the clean reading. -/
import Derived.Test.YtpfmilkddapfiaaClnP27
import Derived.LoopNIn
set_option linter.unusedVariables false
set_option linter.unusedSimpArgs false
set_option linter.deprecated false
set_option maxRecDepth 100000
namespace Go.Cln
def eq0 : Value → Value → Bool
  | .int k n, .int k' m => decide (k = k') && decide (n = m)
  | .bool a, .bool b => a == b
  | .func (.func f) x y, .func (.func g) z u => f == g && (x.toList.isEmpty && y.toList.isEmpty) && (z.toList.isEmpty && u.toList.isEmpty)
  | _, _ => false
def eqRow : List Value → List Value → Bool
  | [], [] => true
  | a :: l, b :: r => eq0 a b && eqRow l r
  | _, _ => false
def eq1 : Value → Value → Bool
  | .agg x, .agg y => eqRow x.toList y.toList
  | a, b => eq0 a b
def eqArgs : List Value → List Value → Bool
  | [], [] => true
  | a :: l, b :: r => eq1 a b && eqArgs l r
  | _, _ => false
theorem eq0_eq {a b : Value} (h : eq0 a b = true) : a = b := by
  unfold eq0 at h
  split at h
  · simp only [Bool.and_eq_true, decide_eq_true_eq] at h; rw [h.1, h.2]
  · rw [eq_of_beq h]
  · rename_i f x y g z u
    simp only [Bool.and_eq_true, List.isEmpty_iff] at h
    obtain ⟨x⟩ := x; obtain ⟨y⟩ := y; obtain ⟨z⟩ := z; obtain ⟨u⟩ := u
    obtain ⟨⟨h1, h2, h3⟩, h4, h5⟩ := h
    simp only at h2 h3 h4 h5
    subst h2; subst h3; subst h4; subst h5
    rw [eq_of_beq h1]
  · cases h
theorem eqRow_eq : ∀ {a b : List Value}, eqRow a b = true → a = b
  | [], [], _ => rfl
  | a :: l, b :: r, h => by
    simp only [eqRow, Bool.and_eq_true] at h
    rw [eq0_eq h.1, eqRow_eq h.2]
  | [], _ :: _, h => by simp [eqRow] at h
  | _ :: _, [], h => by simp [eqRow] at h
theorem eq1_eq {a b : Value} (h : eq1 a b = true) : a = b := by
  unfold eq1 at h
  split at h
  · rename_i x y
    have := eqRow_eq h
    obtain ⟨x⟩ := x; obtain ⟨y⟩ := y
    simp only at this; rw [this]
  · exact eq0_eq h
theorem eqArgs_eq : ∀ {a b : List Value}, eqArgs a b = true → a = b
  | [], [], _ => rfl
  | a :: l, b :: r, h => by
    simp only [eqArgs, Bool.and_eq_true] at h
    rw [eq1_eq h.1, eqArgs_eq h.2]
  | [], _ :: _, h => by simp [eqArgs] at h
  | _ :: _, [], h => by simp [eqArgs] at h
structure Tell (P : Program) where
  fn : FuncId
  args : List Value
  val : Value
  plain : args.all flat = true ∧ flat val = true
  runs : ∀ W : World, Calls P fn args.toArray W fun e w' => e = .returned val ∧ Go.RowKit.Below W.heap.size W w'
def lookT {P : Program} : List (Tell P) → FuncId → List Value → Option Value
  | [], _, _ => none
  | t :: l, f, args => if t.fn == f then (if eqArgs t.args args then some t.val else lookT l f args) else lookT l f args
theorem lookT_ok {P : Program} : ∀ {l : List (Tell P)} {f : FuncId} {args : List Value} {v : Value}, lookT l f args = some v → args.all flat = true ∧ flat v = true ∧ ∀ W : World, Calls P f args.toArray W fun e w' => e = .returned v ∧ Go.RowKit.Below W.heap.size W w'
  | [], f, args, v, h => by simp [lookT] at h
  | t :: l, f, args, v, h => by
    simp only [lookT] at h
    split at h
    · rename_i hf
      split at h
      · rename_i ha
        simp only [Option.some.injEq] at h
        have e := eqArgs_eq ha
        have ef := eq_of_beq hf
        subst ef; subst e; subst h
        exact ⟨t.plain.1, t.plain.2, t.runs⟩
      · exact lookT_ok h
    · exact lookT_ok h
def Given.table {P : Program} (l : List (Tell P)) : Given := Given.calls (lookT l)
theorem GivenOk.table {P : Program} (l : List (Tell P)) : GivenOk P (Given.table l) := GivenOk.calls fun _ _ _ h => lookT_ok h
theorem flat_vl {N : Nat → Prop} {ρ : Nat → PB} : ∀ {l : List Value}, l.all flat = true → VL N ρ l l
  | [], _ => VL.nil
  | v :: l, h => by
    simp only [List.all_cons, Bool.and_eq_true] at h
    exact VL.cons (.of_flat h.1) (flat_vl h.2)
end Go.Cln
namespace Go.Cln
def junk : Value := .chan (some 0)
def isJ : Value → Bool
  | .chan (some 0) => true
  | _ => false
def maskJ : List Value → List Value → List Value
  | v1 :: l1, v2 :: l2 => (if isJ v2 && v1.oneCell' then junk else v1) :: maskJ l1 l2
  | l1, _ => l1
def mask1 (v v2 : Value) : Value := if isJ v2 && v.oneCell' then junk else v
def mask1L : List Value → List Value → List Value
  | v1 :: l1, v2 :: l2 => mask1 v1 v2 :: mask1L l1 l2
  | l1, _ => l1
def mask2 (v v2 : Value) : Value := match v, v2 with
  | .agg x, .agg y => .agg (mask1L x.toList y.toList).toArray
  | v, v2 => mask1 v v2
def mask2L : List Value → List Value → List Value
  | v1 :: l1, v2 :: l2 => mask2 v1 v2 :: mask2L l1 l2
  | l1, _ => l1
def mask3 (v v2 : Value) : Value := match v, v2 with
  | .tuple x, .tuple y => .tuple (mask2L x.toList y.toList).toArray
  | v, v2 => mask2 v v2
def maskD : List Value → List Value → List Value
  | v1 :: l1, v2 :: l2 => mask3 v1 v2 :: maskD l1 l2
  | l1, _ => l1
theorem mask1_vr {N : Nat → Prop} {ρ : Nat → PB} {v v2 w : Value} (h : VR N ρ v w) : VR N ρ (mask1 v v2) w := by
  unfold mask1
  split
  · rename_i hc
    rw [Bool.and_eq_true] at hc
    exact .any (by rw [h.one]; exact hc.2)
  · exact h
theorem mask1L_vl {N : Nat → Prop} {ρ : Nat → PB} : ∀ {l1 l2 l' : List Value}, VL N ρ l1 l' → VL N ρ (mask1L l1 l2) l'
  | [], l2, l', h => by cases l2 <;> exact h
  | v :: l, [], l', h => h
  | v :: l, v2 :: l2, l', h => by
    obtain ⟨w, r, rfl, h1, h2⟩ := h.inv_cons
    exact VL.cons (mask1_vr h1) (mask1L_vl h2)
theorem mask2_vr {N : Nat → Prop} {ρ : Nat → PB} {v v2 w : Value} (h : VR N ρ v w) : VR N ρ (mask2 v v2) w := by
  unfold mask2
  split
  · rename_i x y
    cases h with
    | same hf => simp [flat0] at hf
    | agg h1 h2 =>
      have := mask1L_vl (l2 := y.toList) ⟨h1, h2⟩
      exact .agg this.1 this.2
  · exact mask1_vr h
theorem mask2L_vl {N : Nat → Prop} {ρ : Nat → PB} : ∀ {l1 l2 l' : List Value}, VL N ρ l1 l' → VL N ρ (mask2L l1 l2) l'
  | [], l2, l', h => by cases l2 <;> exact h
  | v :: l, [], l', h => h
  | v :: l, v2 :: l2, l', h => by
    obtain ⟨w, r, rfl, h1, h2⟩ := h.inv_cons
    exact VL.cons (mask2_vr h1) (mask2L_vl h2)
theorem mask3_vr {N : Nat → Prop} {ρ : Nat → PB} {v v2 w : Value} (h : VR N ρ v w) : VR N ρ (mask3 v v2) w := by
  unfold mask3
  split
  · rename_i x y
    cases h with
    | same hf => simp [flat0] at hf
    | tup h1 h2 =>
      have := mask2L_vl (l2 := y.toList) ⟨h1, h2⟩
      exact .tup this.1 this.2
  · exact mask2_vr h
theorem maskD_vl {N : Nat → Prop} {ρ : Nat → PB} : ∀ {l1 l2 l' : List Value}, VL N ρ l1 l' → VL N ρ (maskD l1 l2) l'
  | [], l2, l', h => by cases l2 <;> exact h
  | v :: l, [], l', h => h
  | v :: l, v2 :: l2, l', h => by
    obtain ⟨w, r, rfl, h1, h2⟩ := h.inv_cons
    exact VL.cons (mask3_vr h1) (maskD_vl h2)
def renL (σ : Nat → Nat) : Value → Value
  | .pointer (some a) => .pointer (some (if isAbs a.spot then a else { a with block := σ a.block }))
  | .slice (some a) n c => .slice (some (if isAbs a.spot then a else { a with block := σ a.block })) n c
  | .map (some b) => .map (some (σ b))
  | .func (.yield l) x y => .func (.yield (σ l)) x y
  | v => v
def renA (r : Value → Value) (σ : Nat → Nat) : Value → Value
  | .agg x => .agg (x.toList.map r).toArray
  | .tuple x => .tuple (x.toList.map r).toArray
  | .func (.func f) x y => .func (.func f) (x.toList.map r).toArray (y.toList.map r).toArray
  | v => renL σ v
def ren (σ : Nat → Nat) : Value → Value := renA (renA (renL σ) σ) σ
def okB (s : St) (b : Nat) : Bool := decide (b < s.next) && !s.hid b
def okL (s : St) : Value → Bool
  | .pointer (some a) => okB s (if isAbs a.spot then 0 else a.block)
  | .slice (some a) _ _ => okB s (if isAbs a.spot then 0 else a.block)
  | .map (some b) => okB s b
  | .func (.yield l) _ _ => okB s l
  | .chan (some 0) => true
  | v => flat0 v
def okA (o : Value → Bool) (s : St) : Value → Bool
  | .agg x => x.toList.all o
  | .tuple x => x.toList.all o
  | .func (.func _) x y => x.toList.all o && y.toList.all o
  | v => okL s v
def okV (s : St) : Value → Bool := okA (okA (okL s) s) s
theorem okB_dm {s : St} {b : Nat} (h : okB s b = true) : Dm s b := by
  unfold okB at h; rw [Bool.and_eq_true] at h
  exact ⟨of_decide_eq_true h.1, by simpa using h.2⟩
section
variable {N1 : Nat → Prop} {s2 : St} {ρ1 ρ2 : Nat → PB} {σ : Nat → Nat}
theorem renL_sound (hρ : ∀ b, ρ2 b = ρ1 (σ b)) : ∀ (v w : Value), okL s2 v = true → VR N1 ρ1 (renL σ v) w → VR (Dm s2) ρ2 v w := by
  intro v w ho h
  have plain : flat0 v = true → renL σ v = v → VR (Dm s2) ρ2 v w := fun hf e => by
    rw [e] at h; rw [h.eq_flat0 hf]; exact .same hf
  cases v with
  | pointer a =>
    cases a with
    | none => exact plain rfl rfl
    | some a =>
      obtain ⟨b, o, sp⟩ := a
      simp only [renL] at h
      simp only [okL] at ho
      by_cases hg : isAbs sp = true
      · rw [if_pos hg] at h ho
        cases h with
        | same hf => simp [flat0] at hf
        | ptr hN => cases hg
        | absP _ hg => exact .absP (okB_dm ho) hg
      rw [if_neg hg] at h ho
      cases h with
      | same hf => simp [flat0] at hf
      | ptr hN => rw [← hρ]; exact .ptr (okB_dm ho)
      | absP _ hg' => exact absurd hg' hg
  | slice a n c =>
    cases a with
    | none => exact plain rfl rfl
    | some a =>
      obtain ⟨b, o, sp⟩ := a
      simp only [renL] at h
      simp only [okL] at ho
      by_cases hg : isAbs sp = true
      · rw [if_pos hg] at h ho
        cases h with
        | same hf => simp [flat0] at hf
        | slice hN hn hs => rw [hs.noAbs] at hg; cases hg
        | abs _ hg hk => exact .abs (okB_dm ho) hg hk
      rw [if_neg hg] at h ho
      cases h with
      | same hf => simp [flat0] at hf
      | slice hN hn hs => exact .slice (okB_dm ho) hn (by rw [hρ]; exact hs)
      | abs _ hg' _ => exact absurd hg' hg
  | map b =>
    cases b with
    | none => exact plain rfl rfl
    | some b =>
      simp only [renL] at h
      cases h with
      | same hf => simp [flat0] at hf
      | mapv hN => rw [← hρ]; exact .mapv (okB_dm ho)
  | func f x y =>
    cases f with
    | yield l =>
      simp only [renL] at h
      cases h with
      | same hf => simp [flat0] at hf
      | yield hN => rw [← hρ]; exact .yield (okB_dm ho)
    | _ => exact plain ho rfl
  | chan r =>
    cases r with
    | none => exact plain ho rfl
    | some k =>
      cases k with
      | zero =>
        simp only [renL] at h
        cases h with
        | same hf => simp [flat0] at hf
        | any hw => exact .any hw
      | succ k => exact plain ho rfl
  | _ => exact plain ho rfl
theorem renA_sound (hρ : ∀ b, ρ2 b = ρ1 (σ b)) {r : Value → Value} {o : Value → Bool} (hr : ∀ (v w : Value), o v = true → VR N1 ρ1 (r v) w → VR (Dm s2) ρ2 v w) :
    ∀ (v w : Value), okA o s2 v = true → VR N1 ρ1 (renA r σ v) w → VR (Dm s2) ρ2 v w := by
  have rows : ∀ (x : Array Value) (x' : Array Value), x.toList.all o = true → (x.toList.map r).toArray.toList.length = x'.toList.length → (∀ (i : Nat) (v w : Value), (x.toList.map r).toArray.toList[i]? = some v → x'.toList[i]? = some w → VR N1 ρ1 v w) →
      x.toList.length = x'.toList.length ∧ ∀ (i : Nat) (v w : Value), x.toList[i]? = some v → x'.toList[i]? = some w → VR (Dm s2) ρ2 v w := fun x x' ha h1 h2 => by
    refine ⟨by simpa using h1, fun i v w hv hw => ?_⟩
    refine hr v w (List.all_eq_true.1 ha v (List.mem_of_getElem? hv)) (h2 i _ w ?_ hw)
    show (x.toList.map r)[i]? = some (r v)
    rw [List.getElem?_map, hv]; rfl
  intro v w ho h
  cases v with
  | agg x =>
    simp only [renA] at h
    cases h with
    | same hf => simp [flat0] at hf
    | agg h1 h2 => obtain ⟨a, b⟩ := rows x _ ho h1 h2; exact .agg a b
  | tuple x =>
    simp only [renA] at h
    cases h with
    | same hf => simp [flat0] at hf
    | tup h1 h2 => obtain ⟨a, b⟩ := rows x _ ho h1 h2; exact .tup a b
  | func f x y =>
    cases f with
    | func f =>
      simp only [renA] at h
      simp only [okA, Bool.and_eq_true] at ho
      cases h with
      | same hf =>
        simp only [flat0, Bool.and_eq_true, List.isEmpty_iff, List.map_eq_nil_iff] at hf
        obtain ⟨hx, hy⟩ := hf
        obtain ⟨x⟩ := x; obtain ⟨y⟩ := y
        simp only at hx hy
        subst hx; subst hy
        exact .same rfl
      | fn h1 h2 h3 h4 => obtain ⟨a, b⟩ := rows x _ ho.1 h1 h2; obtain ⟨c, d⟩ := rows y _ ho.2 h3 h4; exact .fn a b c d
    | _ => exact renL_sound hρ _ _ ho h
  | _ => exact renL_sound hρ _ _ ho h
theorem ren_sound (hρ : ∀ b, ρ2 b = ρ1 (σ b)) (v w : Value) (ho : okV s2 v = true) (h : VR N1 ρ1 (ren σ v) w) : VR (Dm s2) ρ2 v w :=
  renA_sound hρ (renA_sound hρ (renL_sound hρ)) v w ho h
theorem renAll_sound (hρ : ∀ b, ρ2 b = ρ1 (σ b)) {l l' : List Value} (ho : l.all (okV s2) = true) (h : VL N1 ρ1 (l.map (ren σ)) l') : VL (Dm s2) ρ2 l l' :=
  ⟨by simpa using h.1, fun i v w hv hw => ren_sound hρ v w (List.all_eq_true.1 ho v (List.mem_of_getElem? hv)) (h.2 i _ w (by rw [List.getElem?_map, hv]; rfl) hw)⟩
end
inductive ObV (s2 : St) (σ : Nat → Nat) : Ob → Ob → Prop
  | cells {c1 c : Cells} {t1 t : TypeId} : (∀ (i : Nat) (v : Value), c.get i = some v → ∃ v1, c1.get i = some v1 ∧ (v1 = ren σ v ∨ (v = junk ∧ v1.oneCell' = true)) ∧ okV s2 v = true) → ObV s2 σ (.cells c1 t1) (.cells c t)
  | loop {l1 l : CLoop} : l1.state = l.state → l1.pending = l.pending → maskD l1.tmps l.tmps = l.tmps.map (ren σ) → l.tmps.all (okV s2) = true → l1.params = l.params → l1.assign = l.assign → l1.body = l.body → l1.defers = σ l.defers → okB s2 l.defers = true → ObV s2 σ (.loop l1) (.loop l)
  | marks : ObV s2 σ .marks .marks
  | fam {F : Nat → Nat → Cells} : okB s2 0 = true → ObV s2 σ (.fam F) (.fam F)
  | map {es1 es : List MapEntry} {k : Nat} : es1 = es.map (fun e => { e with val := ren σ e.val }) → es.all (fun e => okV s2 e.val) = true → ObV s2 σ (.map es1 k) (.map es k)
theorem ObV.soft {s2 : St} {σ : Nat → Nat} {o1 o : Ob} (h : ObV s2 σ o1 o) (k : o1.soft = true) : o.soft = true := by
  cases h with
  | fam _ => rfl
  | _ => cases k
theorem maskJ_get : ∀ {l1 l2 : List Value} {i : Nat} {v : Value}, (maskJ l1 l2)[i]? = some v → ∃ v1, l1[i]? = some v1 ∧ (v1 = v ∨ (v = junk ∧ v1.oneCell' = true))
  | [], l2, i, v, h => by cases l2 <;> simp [maskJ] at h
  | a :: l, [], i, v, h => ⟨v, h, .inl rfl⟩
  | a :: l, b :: r, 0, v, h => by
    simp only [maskJ, List.getElem?_cons_zero, Option.some.injEq] at h
    refine ⟨a, rfl, ?_⟩
    split at h
    · rename_i hc; rw [Bool.and_eq_true] at hc; exact .inr ⟨h.symm, hc.2⟩
    · exact .inl h
  | a :: l, b :: r, i + 1, v, h => by
    simp only [maskJ, List.getElem?_cons_succ] at h
    simpa using maskJ_get h
theorem ren_junk {σ : Nat → Nat} {v : Value} (h : ren σ v = junk) : v = junk := by
  unfold ren at h
  cases v with
  | chan r => exact h
  | pointer a => cases a <;> cases h
  | slice a n c => cases a <;> cases h
  | map a => cases a <;> cases h
  | func f x y => cases f <;> cases h
  | _ => cases h
theorem ObV.lit {s2 : St} {σ : Nat → Nat} {l1 l : List Value} {t1 t : TypeId} (h : maskJ l1 l = l.map (ren σ)) (ho : l.all (okV s2) = true) : ObV s2 σ (.cells (.lit l1) t1) (.cells (.lit l) t) :=
  .cells fun i v hv => by
    simp only [Cells.get] at hv ⊢
    have h1 : (maskJ l1 l)[i]? = some (ren σ v) := by rw [h, List.getElem?_map, hv]; rfl
    obtain ⟨v1, g1, g2⟩ := maskJ_get h1
    refine ⟨v1, g1, ?_, List.all_eq_true.1 ho v (List.mem_of_getElem? hv)⟩
    rcases g2 with g2 | ⟨g2, g3⟩
    · exact .inl g2
    · exact .inr ⟨ren_junk g2, g3⟩
theorem ren_flat0 (σ : Nat → Nat) {v : Value} (h : flat0 v = true) : ren σ v = v := by
  cases v with
  | pointer a => cases a <;> first | rfl | (simp [flat0] at h)
  | slice a n c => cases a <;> first | rfl | (simp [flat0] at h)
  | map a => cases a <;> first | rfl | (simp [flat0] at h)
  | func f x y =>
    cases f with
    | func f =>
      simp only [flat0, Bool.and_eq_true, List.isEmpty_iff] at h
      obtain ⟨x⟩ := x; obtain ⟨y⟩ := y
      simp only at h
      obtain ⟨rfl, rfl⟩ := h; rfl
    | _ => simp [flat0] at h
  | agg => simp [flat0] at h
  | tuple => simp [flat0] at h
  | _ => rfl
theorem okV_flat0 (s : St) {v : Value} (h : flat0 v = true) : okV s v = true := by
  cases v with
  | pointer a => cases a <;> first | rfl | (simp [flat0] at h)
  | slice a n c => cases a <;> first | rfl | (simp [flat0] at h)
  | map a => cases a <;> first | rfl | (simp [flat0] at h)
  | func f x y =>
    cases f with
    | func f =>
      simp only [flat0, Bool.and_eq_true, List.isEmpty_iff] at h
      obtain ⟨x⟩ := x; obtain ⟨y⟩ := y
      simp only at h
      obtain ⟨rfl, rfl⟩ := h; rfl
    | _ => simp [flat0] at h
  | agg => simp [flat0] at h
  | chan r =>
    cases r with
    | none => rfl
    | some k => simp [flat0] at h
  | tuple => simp [flat0] at h
  | _ => exact h
theorem ObV.ints {s2 : St} {σ : Nat → Nat} {c1 c : Cells} {t1 t : TypeId} (h : ∀ (i : Nat) (v : Value), c.get i = some v → c1.get i = some v ∧ flat0 v = true) : ObV s2 σ (.cells c1 t1) (.cells c t) :=
  .cells fun i v hv => ⟨v, (h i v hv).1, .inl (ren_flat0 σ (h i v hv).2).symm, okV_flat0 s2 (h i v hv).2⟩
structure View (s0 s1 s2 : St) (σ : Nat → Nat) : Prop where
  next : s0.next ≤ s2.next
  idn : ∀ b, b < s0.next → σ b = b
  fresh : ∀ b, s0.next ≤ b → s0.next ≤ σ b
  roB : s2.roB = s1.roB
  ro : s2.ro = s1.ro
  hid : s2.hid = s1.hid
  tmps : maskD s1.tmps s2.tmps = s2.tmps.map (ren σ)
  okT : s2.tmps.all (okV s2) = true
  defers : s1.defers = s2.defers.map σ
  okD : ∀ d ∈ s2.defers, d < s2.next
  heap : ∀ (b : Nat) (o : Ob), s2.heap.get b = some o → okB s2 b = true ∧ ∃ o1, s1.heap.get (σ b) = some o1 ∧ ObV s2 σ o1 o
  inj : ∀ (b b' : Nat) (o o' : Ob), s2.heap.get b = some o → s2.heap.get b' = some o' → σ b = σ b' → b = b'
  same : ∀ b, b < s0.next → s0.may b = false → s2.heap.get b = s1.heap.get b
theorem may_lt {s : St} {ρ : Nat → PB} {w : World} (hs : Hs s ρ w) {b : Nat} (h : s.may b = false) : b < s.next := by
  rcases Nat.lt_or_ge b s.next with h1 | h1
  · exact h1
  · rw [hs.may_next h1] at h; cases h
def Pic (s0 : St) (ρ0 : Nat → PB) (w0 : World) (s : St) (w : World) (a : Act) : Prop := ∃ ρ, Rel s ρ w a ∧ Tra s0 s ρ0 ρ w0 w
theorem Pic.view {s0 s1 s2 : St} {ρ0 : Nat → PB} {w0 w : World} {a : Act} {σ : Nat → Nat} (hs0 : Hs s0 ρ0 w0) (v : View s0 s1 s2 σ) (h : Pic s0 ρ0 w0 s1 w a) : Pic s0 ρ0 w0 s2 w a := by
  obtain ⟨ρ1, r, t⟩ := h
  have hρ : ∀ b, (fun b => ρ1 (σ b)) b = ρ1 (σ b) := fun _ => rfl
  have hro : s0.roB ≤ s0.next := hs0.wf.1
  have hmay : ∀ b, s2.may b = s0.may b := fun b => by rw [may_of v.roB v.ro, may_of t.roB t.ro]
  have hmay1 : ∀ b, s1.may b = s0.may b := fun b => may_of t.roB t.ro b
  refine ⟨fun b => ρ1 (σ b), ⟨⟨⟨fun b o hb => ?_, fun b b' o o' hb hb' hk e => ?_, fun b b' o o' B hb hB hb' hk => ?_⟩, fun b hb => ?_, ?_⟩, ?_, ?_, v.okD⟩, ?_⟩
  · obtain ⟨hd, o1, h1, ho⟩ := v.heap b o hb
    obtain ⟨_, k⟩ := r.hs.ob _ _ h1
    refine ⟨okB_dm hd, ?_⟩
    have hr : s2.roB ≤ b → s1.roB ≤ σ b := fun hb => by
      rw [v.roB] at hb
      rcases Nat.lt_or_ge b s0.next with hlt | hge
      · rw [v.idn b hlt]; exact hb
      · have := v.fresh b hge; rw [t.roB]; omega
    cases ho with
    | cells hc =>
      obtain ⟨pc, ty, fr, k1, k2, k3, k4⟩ := k
      refine ⟨pc, ty, fr, k1, k2, fun m => k3 (hr m), fun i x hx => ?_⟩
      obtain ⟨v1, y1, y2, y3⟩ := hc i x hx
      obtain ⟨z, z1, z2⟩ := k4 i _ y1
      refine ⟨z, z1, ?_⟩
      rcases y2 with rfl | ⟨rfl, y2⟩
      · exact ren_sound hρ x z y3 z2
      · exact .any (by rw [z2.one]; exact y2)
    | loop e1 e2 e3 e4 e5 e6 e7 e8 e9 =>
      rename_i lo1 lo
      obtain ⟨l', k1, k2⟩ := k
      refine ⟨l', k1, ⟨k2.state.trans e1, k2.pending.trans e2, ?_, k2.params.trans e5, k2.assign.trans e6, k2.body.trans e7, okB_dm e9, ?_⟩⟩
      · have := maskD_vl (l2 := lo.tmps) k2.tmps; rw [e3] at this; exact renAll_sound hρ e4 this
      · rw [k2.defers, e8]
    | marks => exact k
    | fam hz =>
      obtain ⟨k1, k3⟩ := k
      refine ⟨fun hb => k1 (hr hb), fun g P i x hx => ?_⟩
      obtain ⟨pc, ty, fr, x', q1, q2, q3, q4⟩ := k3 g P i x hx
      exact ⟨pc, ty, fr, x', q1, q2, famV_vr q3 q4 (okB_dm hz), q4⟩
    | map e1 e2 =>
      rename_i es1 es kk
      obtain ⟨es', k1, k2, k3⟩ := k
      refine ⟨es', k1, by rw [k2, e1]; simp, fun i x y hx hy => ?_⟩
      obtain ⟨y1, y2, y3⟩ := k3 i { x with val := ren σ x.val } y (by rw [e1, List.getElem?_map, hx]; rfl) hy
      exact ⟨y1, y2, ren_sound hρ _ _ (List.all_eq_true.1 e2 x (List.mem_of_getElem? hx)) y3⟩
  · obtain ⟨_, o1, h1, q1⟩ := v.heap b o hb
    obtain ⟨_, o2, h2, q2⟩ := v.heap b' o' hb'
    have up : ∀ c, s2.roB ≤ c → s1.roB ≤ σ c := fun c hc => by
      rw [v.roB] at hc
      rcases Nat.lt_or_ge c s0.next with hlt | hge
      · rw [v.idn c hlt]; exact hc
      · have := v.fresh c hge; rw [t.roB]; omega
    exact (r.hs.inj _ _ _ _ h1 h2 (hk.imp (up b) (up b')) e).imp (v.inj b b' o o' hb hb') (Or.imp q1.soft q2.soft)
  · obtain ⟨_, o1, h1, hv⟩ := v.heap b o hb
    obtain ⟨_, o2, h2, _⟩ := v.heap b' o' hb'
    have up : ∀ c, s2.roB ≤ c → s1.roB ≤ σ c := fun c hc => by
      rw [v.roB] at hc
      rcases Nat.lt_or_ge c s0.next with hlt | hge
      · rw [v.idn c hlt]; exact hc
      · have := v.fresh c hge; rw [t.roB]; omega
    refine r.hs.far _ _ o1 o2 B h1 ?_ h2 (up b' hk)
    obtain ⟨F, g, P, i, x, rfl, hx, hB⟩ := hB
    cases hv
    exact ⟨F, g, P, i, x, rfl, hx, hB⟩
  · rw [v.hid, t.hid]; exact hs0.hid b (Nat.le_trans v.next hb)
  · rw [v.roB, v.ro, t.roB, t.ro]
    exact ⟨Nat.le_trans hro v.next, fun b hb => Nat.lt_of_lt_of_le (hs0.wf.2 b hb) v.next⟩
  · have := maskD_vl (l2 := s2.tmps) r.tmps; rw [v.tmps] at this; exact renAll_sound hρ v.okT this
  · rw [r.defers, v.defers]; simp [marksOf]
  · refine ⟨v.next, fun b hb => ?_, t.os, t.tape, t.output, t.size, t.frame, fun b o hb hm => ?_, v.roB.trans t.roB, v.ro.trans t.ro, v.hid.trans t.hid, fun b hb => ?_⟩
    · show ρ1 (σ b) = ρ0 b
      rw [v.idn b hb]; exact t.ext b hb
    · obtain ⟨_, o1, h1, _⟩ := v.heap b o hb
      refine t.own (σ b) o1 h1 ?_
      rw [hmay1]; rw [hmay] at hm
      rcases Nat.lt_or_ge b s0.next with hlt | hge
      · rw [v.idn b hlt]; exact hm
      · exact hs0.may_next (v.fresh b hge)
    · have := may_lt hs0 hb
      rw [v.same b this hb]; exact t.same b hb
def St.bare (s : St) : St := { s with obl := True, orc := [] }
theorem St.bare_like (s : St) : Like s s.bare := ⟨rfl, rfl, rfl, rfl, rfl⟩
theorem Rel.like {s s' : St} {ρ : Nat → PB} {w : World} {a : Act} (h : Rel s ρ w a) (l : Like s s') (ht : s'.tmps = s.tmps) (hd : s'.defers = s.defers) : Rel s' ρ w a :=
  h.after (Tra.refl _ _ _) h.hs l ht hd
def Step (P : Program) (rd : Option Nat) (s0 : St) (c : Code) (s : St) (Q : Exit → St → Prop) : Prop :=
  ∀ (n : Nat) (ρ0 : Nat → PB) (w0 w : World) (a : Act) (R : Exit → Act → World → Prop), (∀ l, rd = some l → l < s0.next) → Hs s0 ρ0 w0 → Pic s0 ρ0 w0 s w a →
    (∀ e s' w' a', Q e s' → Pic s0 ρ0 w0 s' w' a' → R e a' w') → c.wpIn (fenceOf rd ρ0) n P R a w
theorem Step.mono {P : Program} {rd : Option Nat} {s0 : St} {c : Code} {s : St} {Q Q' : Exit → St → Prop} (h : Step P rd s0 c s Q) (hq : ∀ e s', Q e s' → Q' e s') : Step P rd s0 c s Q' :=
  fun n ρ0 w0 w a R h1 h2 h3 h4 => h n ρ0 w0 w a R h1 h2 h3 fun e s' w' a' hQ => h4 e s' w' a' (hq e s' hQ)
theorem Step.view {P : Program} {rd : Option Nat} {s0 : St} {c : Code} {s s2 : St} {Q : Exit → St → Prop} {σ : Nat → Nat} (v : View s0 s s2 σ) (h : Step P rd s0 c s2 Q) : Step P rd s0 c s Q :=
  fun n ρ0 w0 w a R h1 h2 h3 h4 => h n ρ0 w0 w a R h1 h2 (h3.view h2 v) h4
theorem Step.run {P : Program} {rd : Option Nat} {s0 s s1 s2 : St} {c : Code} {e : Exit} {σ : Nat → Nat} (h : CodeOk P rd c s e s1) (ho : s1.obl) (hn : s0.next ≤ s.next) (v : View s0 s1 s2 σ) : Step P rd s0 c s (fun e' s' => e' = e ∧ s' = s2) := by
  intro n ρ0 w0 w a R h1 h2 ⟨ρ, r, t⟩ h4
  have := h ho n ρ w a R (fun l hl => Nat.lt_of_lt_of_le (h1 l hl) hn) r fun ρ' w' a' r' t' => h4 e s2 w' a' ⟨rfl, rfl⟩ (Pic.view h2 v ⟨ρ', r', t.trans t'⟩)
  rwa [fenceOf_ext h1 t.ext] at this
theorem Step.exec {P : Program} (G : PG P) {K : Given} (hK : GivenOk P K) {n : Nat} {f : FuncId} {rd : Option Nat} {s0 s s2 : St} {c : Code} {e : Exit} {p : Prop} {o : List (Option Bool)} {σ : Nat → Nat}
    (hr : ((mk P K n).code f rd c { s with obl := True, orc := o }).map (fun r => (r.1, r.2.obl)) = some (e, p)) (hp : p) (hn : s0.next ≤ s.next)
    (v : View s0 ((((mk P K n).code f rd c { s with obl := True, orc := o }).map (·.2)).getD s) s2 σ) : Step P rd s0 c s (fun e' s' => e' = e ∧ s' = s2) := by
  cases hc : (mk P K n).code f rd c { s with obl := True, orc := o } with
  | none => rw [hc] at hr; simp at hr
  | some r =>
    obtain ⟨e1, s1⟩ := r
    rw [hc] at hr v
    simp only [Option.map_some, Option.some.injEq, Prod.mk.injEq, Option.getD_some] at hr v
    obtain ⟨rfl, hq⟩ := hr
    have l1 : Like s { s with obl := True, orc := o } := ⟨rfl, rfl, rfl, rfl, rfl⟩
    have h := (mk_ok G hK n).okCode hc
    intro m ρ0 w0 w a R h1 h2 ⟨ρ, r, t⟩ h4
    have := h (by rw [hq]; exact hp) m ρ w a R (fun l hl => Nat.lt_of_lt_of_le (h1 l hl) hn) (r.like l1 rfl rfl) fun ρ' w' a' r' t' => h4 _ s2 w' a' ⟨rfl, rfl⟩ (Pic.view h2 v ⟨ρ', r', t.trans (l1.thenTra t')⟩)
    rwa [fenceOf_ext h1 t.ext] at this
theorem Step.loop {P : Program} {rd : Option Nat} {s0 : St} {c : Code} {Q : Exit → St → Prop} (I : Nat → St → Prop)
    (h : ∀ k s, I k s → Step P rd s0 c s (fun e s' => (e = .normal ∧ ∃ k', k' < k ∧ I k' s') ∨ (e ≠ .normal ∧ Q e s'))) : ∀ k s, I k s → Step P rd s0 (.loop c) s Q := by
  intro k s hI n ρ0 w0 w a R h1 h2 h3 h4
  have key : ∀ (m k : Nat) (s : St) (w : World) (a : Act), k < m → I k s → Pic s0 ρ0 w0 s w a → Code.roundsIn (fenceOf rd ρ0) n P c R m a w := by
    intro m
    induction m with
    | zero => intro k s w a hk; omega
    | succ m ih =>
      intro k s w a hk hI hp
      rw [roundsIn_succ]
      refine h k s hI n ρ0 w0 w a _ h1 h2 hp fun e s' w' a' hq hp' => ?_
      rcases hq with ⟨rfl, k', hk', hI'⟩ | ⟨hne, hQ⟩
      · exact ih k' s' w' a' (by omega) hI' hp'
      · have := h4 e s' w' a' hQ hp'
        cases e <;> first | exact this | exact absurd rfl hne
  exact wpIn_loop_rounds (k + 1) (key (k + 1) k s w a (Nat.lt_succ_self k) hI h3)
def Given.asks (K : Given) (L : FuncId → Code → St → Option (Exit × St)) (C : FuncId → List Value → St → Option (Value × St)) : Program → Given := fun P =>
  { call := fun f args s => match C f args s with
      | some (v, s1) => some (v, { s1 with obl := s.obl ∧ CallOk P f args s.bare v s1.bare, orc := s.orc })
      | none => K.call f args s
    loop := fun f c s => match L f c s with
      | some (e, s1) => some (e, { s1 with obl := s.obl ∧ ∀ rd, CodeOk P rd (.loop c) s.bare e s1.bare, orc := s.orc })
      | none => K.loop f c s
    fits := K.fits }
theorem GivenOk.asks {P : Program} {K : Given} (h : GivenOk P K) (L : FuncId → Code → St → Option (Exit × St)) (C : FuncId → List Value → St → Option (Value × St)) : GivenOk P (Given.asks K L C P) := by
  refine ⟨fun {f args s s' v} hc => ?_, fun {f args s s' v} hc => ?_, fun {f c s s' e} hc => ?_, fun {f c s s' e} hc => ?_⟩
  · simp only [Given.asks] at hc
    split at hc
    · simp only [Option.some.injEq, Prod.mk.injEq] at hc; obtain ⟨_, rfl⟩ := hc; exact fun k => k.1
    · exact h.callObl hc
  · simp only [Given.asks] at hc
    split at hc
    · rename_i v1 s1 _
      simp only [Option.some.injEq, Prod.mk.injEq] at hc; obtain ⟨rfl, rfl⟩ := hc
      intro ho n ρ w args' hs ha
      have l1 : Like s1.bare { s1 with obl := s.obl ∧ CallOk P f args s.bare v1 s1.bare, orc := s.orc } := ⟨rfl, rfl, rfl, rfl, rfl⟩
      refine (ho.2 trivial n ρ w args' (s.bare_like.holds hs) (by rw [s.bare_like.dm]; exact ha)).mono ?_
      rintro e w' ⟨v', ρ', rfl, g1, g2, g3⟩
      exact ⟨v', ρ', rfl, by rw [l1.dm]; exact g1, l1.holds g2, (s.bare_like.thenTra g3).like l1⟩
    · exact h.call hc
  · simp only [Given.asks] at hc
    split at hc
    · simp only [Option.some.injEq, Prod.mk.injEq] at hc; obtain ⟨_, rfl⟩ := hc; exact fun k => k.1
    · exact h.loopObl hc
  · simp only [Given.asks] at hc
    split at hc
    · rename_i e1 s1 _
      simp only [Option.some.injEq, Prod.mk.injEq] at hc; obtain ⟨rfl, rfl⟩ := hc
      intro rd ho n ρ w a Q hrd hr hq
      have l1 : Like s1.bare { s1 with obl := s.obl ∧ ∀ rd, CodeOk P rd (.loop c) s.bare e1 s1.bare, orc := s.orc } := ⟨rfl, rfl, rfl, rfl, rfl⟩
      refine ho.2 rd trivial n ρ w a Q hrd (hr.like s.bare_like rfl rfl) fun ρ' w' a' r' t' => ?_
      exact hq ρ' w' a' (r'.like l1 rfl rfl) ((s.bare_like.thenTra t').like l1)
    · exact h.loop hc
end Go.Cln
namespace Go.Cln
noncomputable section
def Tr.rebuild (f : Nat → Option Ob) : Nat → Tr
  | 0 => .leaf
  | n + 1 => match f n with
    | some o => ((Tr.rebuild f n).put 64 n (some o)).getD .leaf
    | none => Tr.rebuild f n
theorem Tr.put_some : ∀ (k n : Nat) (t : Tr) (o : Option Ob), n + 1 < 2 ^ k → k ≠ 0 → ∃ t', t.put k n o = some t'
  | 0, _, _, _, _, h => absurd rfl h
  | k + 1, n, .leaf, o, hn, _ => by
    simp only [Tr.put]
    split
    · exact ⟨_, rfl⟩
    · rename_i h0
      have hk : k ≠ 0 := by intro e; subst e; simp at hn; omega
      have hp : 2 ^ (k + 1) = 2 ^ k * 2 := Nat.pow_succ ..
      split
      · obtain ⟨t', e⟩ := Tr.put_some k (n / 2) .leaf o (by clear o; omega) hk; rw [e]; exact ⟨_, rfl⟩
      · obtain ⟨t', e⟩ := Tr.put_some k (n / 2 - 1) .leaf o (by clear o; omega) hk; rw [e]; exact ⟨_, rfl⟩
  | k + 1, n, .node l v r, o, hn, _ => by
    simp only [Tr.put]
    split
    · exact ⟨_, rfl⟩
    · rename_i h0
      have hk : k ≠ 0 := by intro e; subst e; simp at hn; omega
      have hp : 2 ^ (k + 1) = 2 ^ k * 2 := Nat.pow_succ ..
      split
      · obtain ⟨t', e⟩ := Tr.put_some k (n / 2) l o (by clear o; omega) hk; rw [e]; exact ⟨_, rfl⟩
      · obtain ⟨t', e⟩ := Tr.put_some k (n / 2 - 1) r o (by clear o; omega) hk; rw [e]; exact ⟨_, rfl⟩
theorem Tr.get_rebuild (f : Nat → Option Ob) : ∀ (n b : Nat), n ≤ 1000000 → (Tr.rebuild f n).get b = if b < n then f b else none
  | 0, b, _ => by simp [Tr.rebuild, Tr.get]
  | n + 1, b, hn => by
    have ih := Tr.get_rebuild f n b (by omega)
    simp only [Tr.rebuild]
    split
    · rename_i o ho
      obtain ⟨t', e⟩ := Tr.put_some 64 n (Tr.rebuild f n) (some o) (by omega) (by decide)
      rw [e, Option.getD_some, Tr.get_put _ _ _ _ _ e b, ih]
      by_cases h : b = n
      · subst h; simp [ho]
      · rw [if_neg h]
        by_cases h2 : b < n
        · rw [if_pos h2, if_pos (by omega)]
        · rw [if_neg h2, if_neg (by omega)]
    · rename_i ho
      rw [ih]
      by_cases h : b = n
      · subst h; simp [ho]
      · by_cases h2 : b < n
        · rw [if_pos h2, if_pos (by omega)]
        · rw [if_neg h2, if_neg (by omega)]
def maskAt (J : List Nat) : Nat → List Value → List Value
  | _, [] => []
  | i, v :: l => (if J.contains i && v.oneCell' then junk else v) :: maskAt J (i + 1) l
def intAt (l : List Value) (i : Nat) : Int := match getL l i with
  | .int _ n => n
  | _ => 0
def isKind (k : IntKind) : Value → Bool
  | .int k' _ => decide (k' = k)
  | _ => false
def famOf (l : List Value) : Cells :=
  match l with
  | .int k _ :: _ => if l.all (isKind k) then .fam l.length (fun j => .int k (intAt l j)) else .lit l
  | _ => .lit l
structure Frm where
  J : List Nat
  fams : List Nat
  JB : List (Nat × List Nat)
def canonOb (a : Frm) (b : Nat) : Ob → Ob
  | .cells (.lit l) t =>
    if a.fams.contains b then .cells (famOf l) t else
    match a.JB.find? (fun x => x.1 == b) with
    | some (_, J) => .cells (.lit (maskAt J 0 l)) t
    | none => .cells (.lit l) t
  | .loop r => match a.JB.find? (fun x => x.1 == b) with
    | some (_, J) => .loop { r with tmps := maskAt J 0 r.tmps }
    | none => .loop r
  | o => o
def canon (a : Frm) (s : St) : St :=
  { s with obl := True, orc := [], tmps := maskAt a.J 0 s.tmps, heap := Tr.rebuild (fun b => match s.heap.get b with
    | some o => some (if s.may b then canonOb a b o else o)
    | none => none) s.next }
theorem mask_vl {N : Nat → Prop} {ρ : Nat → PB} {J : List Nat} : ∀ {l l' : List Value} (i : Nat), VL N ρ l l' → VL N ρ (maskAt J i l) l'
  | [], l', i, h => by rw [h.inv_nil]; exact VL.nil
  | v :: l, l', i, h => by
    obtain ⟨w, r, rfl, h1, h2⟩ := h.inv_cons
    refine VL.cons ?_ (mask_vl (i + 1) h2)
    split
    · rename_i hc
      rw [Bool.and_eq_true] at hc
      exact .any (by rw [h1.one]; exact hc.2)
    · exact h1
theorem maskAt_get {J : List Nat} : ∀ {l : List Value} {k i : Nat} {v : Value}, (maskAt J k l)[i]? = some v → ∃ v0, l[i]? = some v0 ∧ (v = v0 ∨ (v = junk ∧ v0.oneCell' = true))
  | [], k, i, v, h => by simp [maskAt] at h
  | a :: l, k, 0, v, h => by
    simp only [maskAt, List.getElem?_cons_zero, Option.some.injEq] at h
    refine ⟨a, rfl, ?_⟩
    split at h
    · rename_i hc; rw [Bool.and_eq_true] at hc; exact .inr ⟨h.symm, hc.2⟩
    · exact .inl h.symm
  | a :: l, k, i + 1, v, h => by
    simp only [maskAt, List.getElem?_cons_succ] at h
    simpa using maskAt_get h
theorem famOf_get {l : List Value} {i : Nat} {v : Value} (h : (famOf l).get i = some v) : l[i]? = some v := by
  unfold famOf at h
  split at h
  · rename_i k n r
    split at h
    · rename_i ha
      simp only [Cells.get] at h
      split at h
      · rename_i hi
        simp only [Option.some.injEq] at h
        have hm := List.all_eq_true.1 ha _ (List.getElem_mem hi)
        rw [List.getElem?_eq_getElem hi, ← h]
        have e : getL (.int k n :: r) i = (Value.int k n :: r)[i] := by rw [getL_eq, List.getD_eq_getElem?_getD, List.getElem?_eq_getElem hi]; rfl
        have key : ∀ x : Value, isKind k x = true → x = .int k (match x with | .int _ n => n | _ => 0) := fun x hx => by
          cases x <;> simp [isKind] at hx
          rw [hx]
        unfold intAt
        rw [e]
        exact congrArg some (key _ hm)
      · cases h
    · exact h
  · exact h
theorem canonOb_obR {a : Frm} {b : Nat} {N : Nat → Prop} {ρ : Nat → PB} {may : Prop} {p : PB} {w : World} {o : Ob} (h : ObR N ρ may p w o) : ObR N ρ may p w (canonOb a b o) := by
  cases o with
  | cells c t =>
    cases c with
    | lit l =>
      obtain ⟨pc, ty, fr, h1, h2, h3, h4⟩ := h
      simp only [canonOb]
      split
      · exact ⟨pc, ty, fr, h1, h2, h3, fun i v hv => h4 i v (famOf_get hv)⟩
      · split
        · refine ⟨pc, ty, fr, h1, h2, h3, fun i v hv => ?_⟩
          obtain ⟨v0, g1, g2⟩ := maskAt_get hv
          obtain ⟨v', k1, k2⟩ := h4 i v0 g1
          refine ⟨v', k1, ?_⟩
          rcases g2 with rfl | ⟨rfl, g2⟩
          · exact k2
          · exact .any (by rw [k2.one]; exact g2)
        · exact ⟨pc, ty, fr, h1, h2, h3, h4⟩
    | fam n f => exact h
    | rows n w g => exact h
    | ints k l => exact h
  | loop r =>
    obtain ⟨l', h1, h2⟩ := h
    simp only [canonOb]
    split
    · exact ⟨l', h1, ⟨h2.state, h2.pending, mask_vl 0 h2.tmps, h2.params, h2.assign, h2.body, h2.lt, h2.defers⟩⟩
    · exact ⟨l', h1, h2⟩
  | marks => exact h
  | map es k => exact h
  | fam F => exact h
theorem canonOb_soft {a : Frm} {b : Nat} {o : Ob} (h : o.soft = true) : (canonOb a b o).soft = true := by
  cases o with
  | fam F => rfl
  | _ => cases h
theorem canonOb_far {a : Frm} {b B : Nat} {o : Ob} (h : (canonOb a b o).far B) : o.far B := by
  cases o with
  | fam F => exact h
  | cells c t =>
    exfalso
    obtain ⟨F, g, P, i, v, hF, _⟩ := h
    cases c with
    | lit l =>
      simp only [canonOb] at hF
      split at hF
      · cases hF
      · split at hF <;> cases hF
    | _ => cases hF
  | loop r =>
    exfalso
    obtain ⟨F, g, P, i, v, hF, _⟩ := h
    simp only [canonOb] at hF
    split at hF <;> cases hF
  | marks => exact h
  | map es k => exact h
theorem canon_get {a : Frm} {s : St} (hn : s.next ≤ 1000000) (b : Nat) : (canon a s).heap.get b = if b < s.next then (match s.heap.get b with | some o => some (if s.may b then canonOb a b o else o) | none => none) else none :=
  Tr.get_rebuild _ _ _ hn
theorem canon_rel {a : Frm} {s : St} {ρ : Nat → PB} {w : World} {x : Act} (hn : s.next ≤ 1000000) (h : Rel s ρ w x) : Rel (canon a s) ρ w x ∧ Tra s (canon a s) ρ ρ w w := by
  have dm : Dm (canon a s) = Dm s := rfl
  have old : ∀ (b : Nat) (o : Ob), (canon a s).heap.get b = some o → ∃ o0, s.heap.get b = some o0 ∧ (o = o0 ∨ o = canonOb a b o0) := fun b o hb => by
    rw [canon_get hn] at hb
    split at hb
    · cases hg : s.heap.get b with
      | none => rw [hg] at hb; cases hb
      | some o0 =>
        rw [hg] at hb
        simp only [Option.some.injEq] at hb
        refine ⟨o0, rfl, ?_⟩
        split at hb
        · exact .inr hb.symm
        · exact .inl hb.symm
    · cases hb
  refine ⟨⟨⟨⟨fun b o hb => ?_, fun b b' o o' hb hb' hk e => ?_, fun b b' o o' B hb hB hb' hk => ?_⟩, h.hs.hid, h.hs.wf⟩, mask_vl 0 h.tmps, h.defers, h.marks⟩, ?_⟩
  · obtain ⟨o0, g1, g2⟩ := old b o hb
    obtain ⟨k1, k2⟩ := h.hs.ob b o0 g1
    refine ⟨k1, ?_⟩
    rcases g2 with rfl | rfl
    · exact k2
    · exact canonOb_obR k2
  · obtain ⟨o0, g1, q1⟩ := old b o hb
    obtain ⟨o1, g2, q2⟩ := old b' o' hb'
    refine (h.hs.inj b b' _ _ g1 g2 hk e).imp_right (Or.imp (fun k => ?_) fun k => ?_)
    · rcases q1 with rfl | rfl
      · exact k
      · exact canonOb_soft k
    · rcases q2 with rfl | rfl
      · exact k
      · exact canonOb_soft k
  · obtain ⟨o0, g1, g2⟩ := old b o hb
    obtain ⟨o1, g3, _⟩ := old b' o' hb'
    refine h.hs.far b b' _ _ B g1 ?_ g3 hk
    rcases g2 with rfl | rfl
    · exact hB
    · exact canonOb_far hB
  · refine ⟨Nat.le_refl _, fun _ _ => rfl, rfl, rfl, rfl, Nat.le_refl _, fun _ _ _ => rfl, fun b o hb hm => ?_, rfl, rfl, rfl, fun b hb => ?_⟩
    · obtain ⟨o0, g1, _⟩ := old b o hb
      exact .inr ⟨b, o0, g1, hm, rfl⟩
    · have hlt := may_lt h.hs hb
      rw [canon_get hn, if_pos hlt]
      cases s.heap.get b with
      | none => rfl
      | some o => simp only [hb]; rfl
structure Ask where
  frm : Frm
  e : Exit
  fin : St → St
def Given.asking (K : Given) (P : Program) (L : FuncId → St → Option Ask) : Given :=
  { K with loop := fun f c s => match L f s with
      | some a => if s.next ≤ 1000000 then some (a.e, { a.fin (canon a.frm s) with obl := s.obl ∧ ∀ rd, CodeOk P rd (.loop c) (canon a.frm s) a.e (a.fin (canon a.frm s)).bare, orc := s.orc }) else none
      | none => K.loop f c s }
theorem GivenOk.asking {P : Program} {K : Given} (h : GivenOk P K) (L : FuncId → St → Option Ask) : GivenOk P (Given.asking K P L) := by
  refine ⟨h.callObl, h.call, fun {f c s s' e} hc => ?_, fun {f c s s' e} hc => ?_⟩
  · simp only [Given.asking] at hc
    split at hc
    · split at hc
      · simp only [Option.some.injEq, Prod.mk.injEq] at hc; obtain ⟨_, rfl⟩ := hc; exact fun k => k.1
      · cases hc
    · exact h.loopObl hc
  · simp only [Given.asking] at hc
    split at hc
    · rename_i a _
      split at hc
      · rename_i hn
        simp only [Option.some.injEq, Prod.mk.injEq] at hc; obtain ⟨rfl, rfl⟩ := hc
        intro rd ho n ρ w x Q hrd hr hq
        obtain ⟨r1, t1⟩ := canon_rel (a := a.frm) hn hr
        have l1 : Like (a.fin (canon a.frm s)).bare { a.fin (canon a.frm s) with obl := s.obl ∧ ∀ rd, CodeOk P rd (.loop c) (canon a.frm s) a.e (a.fin (canon a.frm s)).bare, orc := s.orc } := ⟨rfl, rfl, rfl, rfl, rfl⟩
        refine ho.2 rd trivial n ρ w x Q (fun l hl => Nat.lt_of_lt_of_le (hrd l hl) t1.next) r1 fun ρ' w' a' r' t' => ?_
        exact hq ρ' w' a' (r'.like l1 rfl rfl) ((t1.trans t').like l1)
      · cases hc
    · exact h.loop hc
end
end Go.Cln
namespace Go.Cln
noncomputable section
def loopsOf : Code → List Code
  | .seq a b => loopsOf a ++ loopsOf b
  | .cond _ a b => loopsOf a ++ loopsOf b
  | .block _ b => loopsOf b
  | .loop b => b :: loopsOf b
  | .rangeFunc _ _ a b => loopsOf a ++ loopsOf b
  | .scope b => loopsOf b
  | _ => []
def loopB (P : Program) (f k : Nat) : Code := match P.funcs[f]? with
  | some fn => match fn.body with
    | some c => (loopsOf c).getD k .skip
    | none => .skip
  | none => .skip
def rowV (k : IntKind) (n : Nat) (g : Nat → Int) : List Value := famList (fun j => .int k (g j)) 0 n
def J (n : Nat) : List Value := List.replicate n junk
def P0 (b o : Nat) : Value := .pointer (some ⟨b, o, none⟩)
theorem heap_at {f : Nat → Option Ob} {n b : Nat} {o : Ob} (hn : n ≤ 1000000) (h : (Tr.rebuild f n).get b = some o) : b < n ∧ f b = some o := by
  rw [Tr.get_rebuild f n b hn] at h
  split at h
  · exact ⟨‹_›, h⟩
  · cases h
theorem View.plain {s1 s2 : St} {n : Nat} {f : Nat → Option Ob} (hh : s2.heap = Tr.rebuild f n) (hn : n ≤ 1000000) (h0 : s2.next = n) (h1 : s1.next = n) (hr : s2.roB = s1.roB) (hro : s2.ro = s1.ro) (hhd : s2.hid = s1.hid)
    (ht : maskD s1.tmps s2.tmps = s2.tmps.map (ren id)) (hto : s2.tmps.all (okV s2) = true) (hd : s1.defers = s2.defers.map id) (hdo : s2.defers.all (fun d => decide (d < s2.next)) = true)
    (hok : ∀ b, b < n → okB s2 b = true)
    {s0 : St} (hs0 : s0.next ≤ n) (hsame : ∀ b, b < s0.next → s0.may b = false → f b = s1.heap.get b)
    (hp : ∀ b o, b < n → f b = some o → ∃ o1, s1.heap.get b = some o1 ∧ ObV s2 id o1 o) : View s0 s1 s2 id := by
  refine ⟨by rw [h0]; exact hs0, fun _ _ => rfl, fun _ h => h, hr, hro, hhd, ht, hto, hd, fun d hm => of_decide_eq_true (List.all_eq_true.1 hdo d hm), fun b o hb => ?_, fun _ _ _ _ _ _ e => e, fun b hb hm => ?_⟩
  · rw [hh] at hb
    obtain ⟨k1, k2⟩ := heap_at hn hb
    exact ⟨hok b k1, hp b o k1 k2⟩
  · rw [hh, Tr.get_rebuild f n b hn, if_pos (by omega)]; exact hsame b hb hm
theorem View.shed {s1 s2 : St} {n : Nat} {f : Nat → Option Ob} (hh : s2.heap = Tr.rebuild f n) (hn : n ≤ 1000000) (h0 : s2.next = n) (hr : s2.roB = s1.roB) (hro : s2.ro = s1.ro) (hhd : s2.hid = s1.hid)
    (ht : maskD s1.tmps s2.tmps = s2.tmps.map (ren id)) (hto : s2.tmps.all (okV s2) = true) (hd : s1.defers = s2.defers.map id) (hdo : s2.defers.all (fun d => decide (d < s2.next)) = true)
    (hok : ∀ b, b < n → okB s2 b = true)
    {s0 : St} (hs0 : s0.next ≤ n) (hsame : ∀ b, b < s0.next → s0.may b = false → f b = s1.heap.get b)
    (hp : ∀ b o, b < n → f b = some o → ∃ o1, s1.heap.get b = some o1 ∧ ObV s2 id o1 o) : View s0 s1 s2 id := by
  refine ⟨by rw [h0]; exact hs0, fun _ _ => rfl, fun _ h => h, hr, hro, hhd, ht, hto, hd, fun d hm => of_decide_eq_true (List.all_eq_true.1 hdo d hm), fun b o hb => ?_, fun _ _ _ _ _ _ e => e, fun b hb hm => ?_⟩
  · rw [hh] at hb
    obtain ⟨k1, k2⟩ := heap_at hn hb
    exact ⟨hok b k1, hp b o k1 k2⟩
  · rw [hh, Tr.get_rebuild f n b hn, if_pos (by omega)]; exact hsame b hb hm
theorem ObV.put {s2 : St} {σ : Nat → Nat} {k : IntKind} {N o : Nat} {g g' : Nat → Int} {v : Int} {t1 t : TypeId} (h : ∀ j, j < N → g' j = if j = o then v else g j) :
    ObV s2 σ (.cells (.fam N (famSet (fun j => .int k (g j)) o [.int k v])) t1) (.cells (.fam N fun j => .int k (g' j)) t) :=
  .ints fun i x hx => by
    simp only [Cells.get] at hx ⊢
    split at hx
    · rename_i hi
      simp only [Option.some.injEq] at hx
      subst hx
      rw [if_pos hi, h i hi]
      simp only [famSet]
      by_cases e : i = o
      · rw [if_pos e, if_pos e]; exact ⟨rfl, rfl⟩
      · rw [if_neg e, if_neg e]; exact ⟨rfl, rfl⟩
    · cases hx
theorem famList_eq (f : Nat → Value) : ∀ (n o : Nat), famList f o n = (List.range n).map fun j => f (o + j)
  | 0, o => rfl
  | n + 1, o => by
    rw [famList, famList_eq f n (o + 1), List.range_succ_eq_map, List.map_cons, List.map_map]
    refine congrArg (_ :: ·) (List.map_congr_left fun j _ => ?_)
    simp only [Function.comp]
    exact congrArg f (by omega)
theorem rowV_of {k : IntKind} {l : List Value} {n : Nat} (hn : l.length = n) (h : l.all (isKind k) = true) : rowV k n (intAt l) = l := by
  subst hn
  unfold rowV
  rw [famList_eq]
  apply List.ext_getElem
  · simp
  · intro i h1 h2
    simp only [List.getElem_map, List.getElem_range, Nat.zero_add]
    have hk := List.all_eq_true.1 h l[i] (List.getElem_mem h2)
    have e : getL l i = l[i] := by rw [getL_eq, List.getD_eq_getElem?_getD, List.getElem?_eq_getElem h2]; rfl
    unfold intAt
    rw [e]
    revert hk
    cases l[i] <;> intro hk <;> simp [isKind] at hk
    rw [hk]
end
end Go.Cln
namespace Go.Cln
def slot (k m : Nat) (b : Nat) : Nat := if b = k then m else b
theorem View.slot {s1 s2 : St} {n k m : Nat} {f : Nat → Option Ob} (hh : s2.heap = Tr.rebuild f n) (hn : n ≤ 1000000) (h0 : s2.next = n) (hr : s2.roB = s1.roB) (hro : s2.ro = s1.ro) (hhd : s2.hid = s1.hid)
    (ht : maskD s1.tmps s2.tmps = s2.tmps.map (ren (slot k m))) (hto : s2.tmps.all (okV s2) = true) (hd : s1.defers = s2.defers.map (Go.Cln.slot k m)) (hdo : s2.defers.all (fun d => decide (d < s2.next)) = true)
    (hok : ∀ b, b < n → okB s2 b = true)
    {s0 : St} (hs0 : s0.next ≤ n) (hk : s0.next ≤ k) (hm : n ≤ m) (hsame : ∀ b, b < s0.next → s0.may b = false → f b = s1.heap.get b)
    (hp : ∀ b o, b < n → f b = some o → ∃ o1, s1.heap.get (Go.Cln.slot k m b) = some o1 ∧ ObV s2 (Go.Cln.slot k m) o1 o) : View s0 s1 s2 (Go.Cln.slot k m) := by
  refine ⟨by rw [h0]; exact hs0, fun b hb => ?_, fun b hb => ?_, hr, hro, hhd, ht, hto, hd, fun d hm => of_decide_eq_true (List.all_eq_true.1 hdo d hm), fun b o hb => ?_, fun b b' o o' hb hb' e => ?_, fun b hb hm => ?_⟩
  · unfold Go.Cln.slot; rw [if_neg (by omega)]
  · unfold Go.Cln.slot; split <;> omega
  · rw [hh] at hb
    obtain ⟨k1, k2⟩ := heap_at hn hb
    exact ⟨hok b k1, hp b o k1 k2⟩
  · rw [hh] at hb hb'
    have k1 := (heap_at hn hb).1
    have k2 := (heap_at hn hb').1
    unfold Go.Cln.slot at e
    split at e <;> split at e <;> omega
  · rw [hh, Tr.get_rebuild f n b hn, if_pos (by omega)]; exact hsame b hb hm
theorem ObV.grow {s2 : St} {σ : Nat → Nat} {k : IntKind} {N : Nat} {g g' : Nat → Int} {v : Int} {t1 t : TypeId} (h : ∀ j, j < N → g' j = g j) (hv : g' N = v) :
    ObV s2 σ (.cells (.lit (famList (fun j => .int k (g j)) 0 (N * 1) ++ [.int k v])) t1) (.cells (.fam (N + 1) fun j => .int k (g' j)) t) :=
  .ints fun i x hx => by
    simp only [Cells.get] at hx ⊢
    split at hx
    · rename_i hi
      simp only [Option.some.injEq] at hx
      subst hx
      rw [Nat.mul_one, famList_eq]
      by_cases e : i < N
      · rw [List.getElem?_append_left (by simpa using e), List.getElem?_map, List.getElem?_range e, h i e]
        exact ⟨by simp, rfl⟩
      · have : i = N := by omega
        subst this
        rw [List.getElem?_append_right (by simp), hv]
        exact ⟨by simp, rfl⟩
    · cases hx
def Given.reads (K : Given) (F : FuncId → List Value → St → Option Value) : Given := { K with call := fun f args s => match F f args s with
  | some v => some (v, s)
  | none => K.call f args s }
theorem GivenOk.reads {P : Program} {K : Given} (hK : GivenOk P K) {F : FuncId → List Value → St → Option Value}
    (h : ∀ f args s v, F f args s = some v → flat v = true ∧ ∀ (ρ : Nat → PB) (w : World) (args' : List Value), Hs s ρ w → VL (Dm s) ρ args args' → Calls P f args'.toArray w fun e w' => e = .returned v ∧ Go.RowKit.Below w.heap.size w w') : GivenOk P (Given.reads K F) := by
  refine ⟨fun {f args s s' v} hc => ?_, fun {f args s s' v} hc => ?_, hK.loopObl, hK.loop⟩
  · simp only [Given.reads] at hc
    split at hc
    · cases hc; exact id
    · exact hK.callObl hc
  · simp only [Given.reads] at hc
    split at hc
    · rename_i v0 hF
      cases hc
      obtain ⟨h1, h2⟩ := h _ _ _ _ hF
      intro ho n ρ w args' hs hl
      refine callsIn_wide.2 ((h2 ρ w args' hs hl).mono ?_)
      rintro e w' ⟨rfl, hb⟩
      obtain ⟨g1, g2⟩ := hs.below hb
      exact ⟨_, ρ, rfl, .of_flat h1, g1, g2⟩
    · exact hK.call hc
end Go.Cln
namespace Go.Cln
open Go.WideShapes in
theorem open_row {P : Program} {w : World} {r : Reach} {b0 : Nat} {t u : TypeId} {v : Value} {n : Nat} {k : IntKind} (hs : (match P.underlying t with | some (.struct _) | some (.array _ _) => true | _ => false) = true)
    (hts : P.cellTypes P.depth t = some (List.replicate n u)) (hn : P.cellsOf t = n) (hu : P.underlying u = some (.int k)) (h : Value.okWide P w r b0 t v) :
    ∃ g : Nat → Int, v = .agg (rowV k n g).toArray ∧ ∀ j, j < n → (Lit.int k (g j)).wf = true := by
  obtain ⟨l, rfl, hl, hc⟩ := open_agg hs hts (by rw [hn]; simp) h
  have hl' : l.length = n := by simpa using hl
  have cell : ∀ (i : Nat) (x : Value), l[i]? = some x → ∃ m, x = .int k m ∧ (Lit.int k m).wf = true := fun i x hx => by
    have hi : i < n := by
      rcases Nat.lt_or_ge i l.length with h | h
      · omega
      · rw [List.getElem?_eq_none h] at hx; cases hx
    exact cell_int hu (hc i x u hx (by rw [List.getElem?_replicate, if_pos hi]))
  have hk : l.all (isKind k) = true := by
    rw [List.all_eq_true]
    intro x hx
    obtain ⟨i, hi, rfl⟩ := List.getElem_of_mem hx
    obtain ⟨m, hm, _⟩ := cell i l[i] (by rw [List.getElem?_eq_getElem hi])
    rw [hm]; simp [isKind]
  refine ⟨intAt l, by rw [rowV_of hl' hk], fun j hj => ?_⟩
  obtain ⟨m, hm, hw⟩ := cell j l[j] (by rw [List.getElem?_eq_getElem (by omega)])
  have e : getL l j = l[j] := by rw [getL_eq, List.getD_eq_getElem?_getD, List.getElem?_eq_getElem (by omega)]; rfl
  unfold intAt
  rw [e, hm]; exact hw
def orF (F G : FuncId → List Value → Option Value) (f : FuncId) (args : List Value) : Option Value := match F f args with
  | some v => some v
  | none => G f args
def CallsOk (P : Program) (F : FuncId → List Value → Option Value) : Prop := ∀ f args v, F f args = some v → args.all flat = true ∧ flat v = true ∧ ∀ W : World, Calls P f args.toArray W fun e w' => e = .returned v ∧ Go.RowKit.Below W.heap.size W w'
theorem CallsOk.or {P : Program} {F G : FuncId → List Value → Option Value} (hF : CallsOk P F) (hG : CallsOk P G) : CallsOk P (orF F G) := fun f args v h => by
  unfold orF at h
  split at h
  · rename_i hv; cases h; exact hF _ _ _ hv
  · exact hG _ _ _ h
def oneF (k : FuncId) (v : Value) (f : FuncId) (args : List Value) : Option Value := if f == k then match args with
  | [] => some v
  | _ => none else none
theorem CallsOk.one {P : Program} {k : FuncId} {v : Value} (hv : flat v = true) (h : ∀ W : World, Calls P k #[] W fun e w' => e = .returned v ∧ Go.RowKit.Below W.heap.size W w') : CallsOk P (oneF k v) := fun f args x hx => by
  unfold oneF at hx
  split at hx
  · rename_i hf
    have hf' : f = k := by simpa using hf
    subst hf'
    split at hx
    · cases hx; exact ⟨rfl, hv, h⟩
    · cases hx
  · cases hx
end Go.Cln
namespace Go.Cln
noncomputable section
def HasCells (w : World) (b o : Nat) (l : List Value) : Prop := ∃ (pc : Array Value) (t : TypeId) (fr : Nat × Nat), w.heap[b]? = some (.cells pc t fr) ∧ ∀ (i : Nat) (v : Value), l[i]? = some v → pc[o + i]? = some v
def litHeap (l : List Value) : Tr := Tr.rebuild (fun i => match i with | 0 => some (.cells (.lit l) 0) | _ => none) 1
theorem lit_hs {w : World} {b o : Nat} {l : List Value} (hl : l.all flat0 = true) (h : HasCells w b o l) :
    ∃ ρ : Nat → PB, Hs (St.start 1 (litHeap l) []) ρ w ∧ VR (Dm (St.start 1 (litHeap l) [])) ρ (P0 0 0) (.pointer (some ⟨b, o, none⟩)) := by
  obtain ⟨pc, t, fr, h1, h2⟩ := h
  refine ⟨fun _ => ⟨b, o, pc.size⟩, ⟨⟨fun x y hx => ?_, fun x x' y y' hx hx' _ _ => ?_, fun x x' y y' B hx hB hx' hk => absurd hk (by obtain ⟨g2, _⟩ := heap_at (by omega) (show (litHeap l).get x' = some y' from hx'); show ¬ 1 ≤ x'; omega)⟩, fun _ _ => rfl, ⟨Nat.le_refl _, fun x hx => by simp [St.start] at hx⟩⟩, .ptr ⟨Nat.zero_lt_one, rfl⟩⟩
  · have hx' : (litHeap l).get x = some y := hx
    obtain ⟨g1, g2⟩ := heap_at (by omega) hx'
    have : x = 0 := by omega
    subst this
    simp only [Option.some.injEq] at g2
    subst g2
    refine ⟨⟨g1, rfl⟩, pc, t, fr, h1, rfl, fun m => absurd m (by simp [St.start]), fun i v hv => ⟨v, h2 i v hv, .same (List.all_eq_true.1 hl v (List.mem_of_getElem? hv))⟩⟩
  · obtain ⟨g1, _⟩ := heap_at (by omega) (show (litHeap l).get x = some y from hx)
    obtain ⟨g2, _⟩ := heap_at (by omega) (show (litHeap l).get x' = some y' from hx')
    omega
structure TellP (P : Program) where
  fn : FuncId
  cells : List Value
  args : List Value
  val : Value
  plain : cells.all flat0 = true ∧ args.all flat = true ∧ flat val = true
  runs : ∀ (W : World) (b o : Nat), HasCells W b o cells → Calls P fn (.pointer (some ⟨b, o, none⟩) :: args).toArray W fun e w' => e = .returned val ∧ Go.RowKit.Below W.heap.size W w'
end
end Go.Cln
namespace Go.Cln
noncomputable section
end
end Go.Cln
namespace Go.Cln
noncomputable section
structure But (b : Nat) (w w' : World) : Prop where
  os : w'.os = w.os
  tape : w'.tape = w.tape
  output : w'.output = w.output
  size : w.heap.size ≤ w'.heap.size
  rest : ∀ k, k < w.heap.size → k ≠ b → w'.heap[k]? = w.heap[k]?
def Own (w : World) (b o n : Nat) (l : List Value) : Prop := ∃ (pc : Array Value) (t : TypeId) (fr : Nat × Nat), w.heap[b]? = some (.cells pc t fr) ∧ pc.size = n ∧ FrOk fr pc.size ∧ ∀ (i : Nat) (v : Value), l[i]? = some v → pc[o + i]? = some v
def ActOk (P : Program) (f : FuncId) (rest : List Value) (l : List Value) (v : Value) (l' : List Value) : Prop :=
  ∀ (w : World) (b o n : Nat), Own w b o n l → Calls P f (.pointer (some ⟨b, o, none⟩) :: rest).toArray w fun e w' => e = .returned v ∧ But b w w' ∧ Own w' b o n l'
def ownStart (l : List Value) (orc : List (Option Bool)) : St := ⟨[], [], litHeap l, 1, 0, [], fun _ => false, True, orc⟩
theorem own_hs {w : World} {b o n : Nat} {l : List Value} (orc : List (Option Bool)) (hl : l.all flat0 = true) (h : Own w b o n l) :
    Hs (ownStart l orc) (fun _ => ⟨b, o, n⟩) w ∧ VR (Dm (ownStart l orc)) (fun _ => ⟨b, o, n⟩) (P0 0 0) (.pointer (some ⟨b, o, none⟩)) := by
  obtain ⟨pc, t, fr, h1, h2, h3, h4⟩ := h
  refine ⟨⟨⟨fun x y hx => ?_, fun x x' y y' hx hx' _ _ => ?_, fun x x' y y' B hx hB hx' _ => by
    obtain ⟨g1, g2⟩ := heap_at (by omega) (show (litHeap l).get x = some y from hx)
    have : x = 0 := by omega
    subst this
    simp only [Option.some.injEq] at g2
    subst g2
    obtain ⟨_, _, _, _, _, hF, _⟩ := hB
    cases hF⟩, fun _ _ => rfl, ⟨Nat.zero_le _, fun x hx => by simp [ownStart] at hx⟩⟩, .ptr ⟨Nat.zero_lt_one, rfl⟩⟩
  · have hx' : (litHeap l).get x = some y := hx
    obtain ⟨g1, g2⟩ := heap_at (by omega) hx'
    have : x = 0 := by omega
    subst this
    simp only [Option.some.injEq] at g2
    subst g2
    exact ⟨⟨g1, rfl⟩, pc, t, fr, h1, h2, fun _ => h3, fun i v hv => ⟨v, h4 i v hv, .same (List.all_eq_true.1 hl v (List.mem_of_getElem? hv))⟩⟩
  · obtain ⟨g1, _⟩ := heap_at (by omega) (show (litHeap l).get x = some y from hx)
    obtain ⟨g2, _⟩ := heap_at (by omega) (show (litHeap l).get x' = some y' from hx')
    omega
theorem ActOk.of_run {P : Program} (G : PG P) {K : Given} (hK : GivenOk P K) {n : Nat} {f : FuncId} {rest l l' : List Value} {orc : List (Option Bool)} {v : Value} {p : Prop} {t' : TypeId}
    (hr : ((mk P K n).call f (P0 0 0 :: rest) (ownStart l orc)).map (fun r => (r.1, r.2.obl, r.2.heap.get 0)) = some (v, p, some (.cells (.lit l') t'))) (hp : p)
    (hl : l.all flat0 = true) (hl' : l'.all flat0 = true) (ha : rest.all flat = true) (hv : flat v = true) : ActOk P f rest l v l' := by
  intro w b o m h
  obtain ⟨g1, g2⟩ := own_hs orc hl h
  cases hc : (mk P K n).call f (P0 0 0 :: rest) (ownStart l orc) with
  | none => rw [hc] at hr; simp at hr
  | some r =>
    obtain ⟨v1, s'⟩ := r
    rw [hc] at hr
    simp only [Option.map_some, Option.some.injEq, Prod.mk.injEq] at hr
    obtain ⟨rfl, hq, hb⟩ := hr
    have := (mk_ok G hK n).okCall hc (by rw [hq]; exact hp) 0 _ w _ g1 (VL.cons g2 (flat_vl ha))
    refine (callsIn_wide.1 this).mono ?_
    rintro e w' ⟨v', ρ', rfl, k1, k2, k3⟩
    have ev : v' = v1 := k1.eq_flat hv
    have e0 : ρ' 0 = ⟨b, o, m⟩ := k3.ext 0 (show 0 < 1 by omega)
    refine ⟨by rw [ev], ⟨k3.os, k3.tape, k3.output, k3.size, fun k hk hne => k3.frame k hk fun b1 o1 _ _ e => hne e.symm⟩, ?_⟩
    obtain ⟨_, pc, ty, fr, q1, q2, q3, q4⟩ := k2.ob 0 _ hb
    rw [e0] at q1 q2 q4
    refine ⟨pc, ty, fr, q1, q2, q3 (by rw [k3.roB]; exact Nat.le_refl 0), fun i x hx => ?_⟩
    obtain ⟨x', y1, y2⟩ := q4 i x hx
    rw [y2.eq_flat0 (List.all_eq_true.1 hl' x (List.mem_of_getElem? hx))] at y1
    exact y1
def Given.acts (K : Given) (F : FuncId → List Value → List Value → Option (Prop × Value × List Value)) : Given := { K with call := fun f args s => match args with
  | .pointer (some ⟨b, 0, none⟩) :: rest => match s.heap.get b with
    | some (.cells (.lit l) t) => match F f rest l with
      | some (p, v, l') => if s.may b = true then (s.setOb b (some (.cells (.lit l') t))).map fun s1 => (v, { s1 with obl := s.obl ∧ p }) else none
      | none => K.call f args s
    | _ => K.call f args s
  | _ => K.call f args s }
theorem setOb_spec {s s1 : St} {b : Nat} {o : Option Ob} (h : s.setOb b o = some s1) : ∃ h', s1 = { s with heap := h' } ∧ ∀ m, h'.get m = if m = b then o else s.heap.get m := by
  unfold St.setOb at h
  rw [bind_some] at h
  obtain ⟨h', e, h⟩ := h
  cases h
  exact ⟨h', rfl, fun m => Tr.get_put _ _ _ _ _ e m⟩
theorem GivenOk.acts {P : Program} {K : Given} (hK : GivenOk P K) {F : FuncId → List Value → List Value → Option (Prop × Value × List Value)}
    (h : ∀ f rest l p v l', F f rest l = some (p, v, l') → l.all flat0 = true ∧ l'.all flat0 = true ∧ rest.all flat = true ∧ flat v = true ∧ l'.length ≤ l.length ∧ (p → ActOk P f rest l v l')) : GivenOk P (Given.acts K F) := by
  refine ⟨fun {f args s s' v} hc => ?_, fun {f args s s' v} hc => ?_, hK.loopObl, hK.loop⟩
  · simp only [Given.acts] at hc
    split at hc
    · split at hc
      · split at hc
        · split at hc
          · simp only [Option.map_eq_some_iff, Prod.mk.injEq] at hc
            obtain ⟨s1, h1, rfl, rfl⟩ := hc
            exact fun k => k.1
          · cases hc
        · exact hK.callObl hc
      · exact hK.callObl hc
    · exact hK.callObl hc
  · simp only [Given.acts] at hc
    split at hc
    · rename_i b rest
      split at hc
      · rename_i l t hb
        split at hc
        · rename_i p v1 l' hF
          split at hc
          · rename_i hm
            simp only [Option.map_eq_some_iff, Prod.mk.injEq] at hc
            obtain ⟨s1, h1, rfl, rfl⟩ := hc
            obtain ⟨hp, rfl, hget⟩ := setOb_spec h1
            obtain ⟨a1, a2, a3, a4, a5, a6⟩ := h _ _ _ _ _ _ hF
            intro ho n ρ w args' hs hl
            obtain ⟨x, r, rfl, hx, hr⟩ := hl.inv_cons
            have er : r = rest := hr.eq_flat a3
            subst er
            obtain ⟨hd, pc, ty, fr, q1, q2, q3, q4⟩ := hs.ob b _ hb
            have hro : s.roB ≤ b := by
              unfold St.may at hm
              rw [Bool.and_eq_true] at hm
              exact of_decide_eq_true hm.1
            cases hx with
            | same hf => simp [flat0] at hf
            | ptr hN =>
              have own : Own w (ρ b).blk ((ρ b).off + 0) (ρ b).len l := ⟨pc, ty, fr, q1, q2, q3 hro, fun i v hv => by
                obtain ⟨v', k1, k2⟩ := q4 i v hv
                rw [k2.eq_flat0 (List.all_eq_true.1 a1 v (List.mem_of_getElem? hv))] at k1
                exact k1⟩
              refine callsIn_wide.2 ((a6 ho.2 w _ _ _ own).mono ?_)
              rintro e w' ⟨rfl, hbut, pc', t', fr', z1, z2, z3, z4⟩
              have old : ∀ (b' : Nat) (o' : Ob), hp.get b' = some o' → b' ≠ b → s.heap.get b' = some o' := fun b' o' hb' hne => by
                rw [hget, if_neg hne] at hb'; exact hb'
              have there : ∀ (b' : Nat) (o' : Ob), hp.get b' = some o' → ∃ o0, s.heap.get b' = some o0 := fun b' o' hb' => by
                by_cases e : b' = b
                · subst e; exact ⟨_, hb⟩
                · exact ⟨o', old b' o' hb' e⟩
              refine ⟨v1, ρ, rfl, .of_flat a4, ⟨⟨fun b' o' hb' => ?_, fun b1 b2 o1 o2 h1 h2 hk e => ?_, fun b1 b2 o1 o2 B h1 hB h2 hk => ?_⟩, hs.hid, hs.wf⟩, ?_⟩
              · by_cases e : b' = b
                · subst e
                  have hb' : hp.get b' = some o' := hb'
                  rw [hget, if_pos rfl] at hb'
                  cases hb'
                  refine ⟨hd, pc', t', fr', z1, z2, fun _ => z3, fun i v hv => ⟨v, z4 i v hv, .same (List.all_eq_true.1 a2 v (List.mem_of_getElem? hv))⟩⟩
                · have h0 := old b' o' hb' e
                  obtain ⟨k1, k2⟩ := hs.ob b' o' h0
                  refine ⟨k1, k2.congr id (fun q => hbut.rest _ (k2.lt q) fun e' => e (hs.injM h0 hb hro e' q)) hbut.size fun B hB => hbut.rest B (k2.farLt hB) fun e' => hs.far _ _ _ _ B h0 hB hb hro e'.symm⟩
              · obtain ⟨p1, y1⟩ := there _ _ h1
                obtain ⟨p2, y2⟩ := there _ _ h2
                have sf : ∀ (b' : Nat) (o' p : Ob), hp.get b' = some o' → s.heap.get b' = some p → p.soft = true → o'.soft = true := fun b' o' p g1 g2 g3 => by
                  by_cases e : b' = b
                  · subst e; rw [hb] at g2; cases g2; cases g3
                  · rw [old b' o' g1 e] at g2; cases g2; exact g3
                exact (hs.inj _ _ _ _ y1 y2 hk e).imp_right (Or.imp (sf _ _ _ h1 y1) (sf _ _ _ h2 y2))
              · obtain ⟨p2, y2⟩ := there _ _ h2
                have h3 : hp.get b1 = some o1 := h1
                by_cases e : b1 = b
                · subst e
                  rw [hget, if_pos rfl] at h3; cases h3
                  obtain ⟨F, g, P, i, v, hF, _⟩ := hB
                  cases hF
                · exact hs.far _ _ _ _ B (old b1 o1 h3 e) hB y2 hk
              · refine ⟨Nat.le_refl _, fun _ _ => rfl, hbut.os, hbut.tape, hbut.output, hbut.size, fun k hk hn => hbut.rest k hk fun e => hn b _ hb hm e.symm, fun b' o' hb' hm' => ?_, rfl, rfl, rfl, fun b' hb' => ?_⟩
                · obtain ⟨o0, y⟩ := there b' o' hb'
                  exact .inr ⟨b', o0, y, hm', rfl⟩
                · show hp.get b' = _
                  rw [hget, if_neg (by rintro rfl; rw [hm] at hb'; cases hb')]
          · cases hc
        · exact hK.call hc
      · exact hK.call hc
    · exact hK.call hc
def SeeOk (P : Program) (f : FuncId) (rest : List Value) (l : List Value) (v : Value) : Prop :=
  ∀ (W : World) (b o : Nat), HasCells W b o l → Calls P f (.pointer (some ⟨b, o, none⟩) :: rest).toArray W fun e w' => e = .returned v ∧ Go.RowKit.Below W.heap.size W w'
theorem SeeOk.of_run {P : Program} (G : PG P) {K : Given} (hK : GivenOk P K) {n : Nat} {f : FuncId} {rest l : List Value} {orc : List (Option Bool)} {v : Value} {p : Prop}
    (hr : ((mk P K n).call f (P0 0 0 :: rest) (St.start 1 (litHeap l) orc)).map (fun r => (r.1, r.2.obl)) = some (v, p)) (hp : p)
    (hl : l.all flat0 = true) (ha : rest.all flat = true) (hv : flat v = true) : SeeOk P f rest l v := by
  intro W b o h
  obtain ⟨ρ, g1, g2⟩ := lit_hs hl h
  have g1' : Hs (St.start 1 (litHeap l) orc) ρ W := ⟨⟨g1.ob, g1.inj, g1.far⟩, g1.hid, g1.wf⟩
  exact ranG G hK hr hp hv g1' (VL.cons g2 (flat_vl ha))
def Given.sees (K : Given) (F : FuncId → List Value → List Value → Option (Nat × Prop × Value)) : Given := { K with call := fun f args s => match args with
  | .pointer (some ⟨b, o, none⟩) :: rest => match s.heap.get b with
    | some (.cells (.lit l) _) => match F f rest (l.drop o) with
      | some (_, p, v) => some (v, { s with obl := s.obl ∧ p })
      | none => K.call f args s
    | _ => K.call f args s
  | _ => K.call f args s }
theorem GivenOk.sees {P : Program} {K : Given} (hK : GivenOk P K) {F : FuncId → List Value → List Value → Option (Nat × Prop × Value)}
    (h : ∀ f rest l k p v, F f rest l = some (k, p, v) → (l.take k).all flat0 = true ∧ rest.all flat = true ∧ flat v = true ∧ (p → SeeOk P f rest (l.take k) v)) : GivenOk P (Given.sees K F) := by
  refine ⟨fun {f args s s' v} hc => ?_, fun {f args s s' v} hc => ?_, hK.loopObl, hK.loop⟩
  · simp only [Given.sees] at hc
    split at hc
    · split at hc
      · split at hc
        · cases hc; exact fun k => k.1
        · exact hK.callObl hc
      · exact hK.callObl hc
    · exact hK.callObl hc
  · simp only [Given.sees] at hc
    split at hc
    · rename_i b o rest
      split at hc
      · rename_i l t hb
        split at hc
        · rename_i k p v1 hF
          cases hc
          obtain ⟨a1, a2, a3, a4⟩ := h _ _ _ _ _ _ hF
          intro ho n ρ w args' hs hl
          obtain ⟨x, r, rfl, hx, hr⟩ := hl.inv_cons
          have er : r = rest := hr.eq_flat a2
          subst er
          obtain ⟨hd, pc, ty, fr, q1, q2, q3, q4⟩ := hs.ob b _ hb
          cases hx with
          | same hf => simp [flat0] at hf
          | ptr hN =>
            refine callsIn_wide.2 ((a4 ho.2 w (ρ b).blk ((ρ b).off + o) ⟨pc, ty, fr, q1, fun i x hx => ?_⟩).mono ?_)
            · have hfl := List.all_eq_true.1 a1 x (List.mem_of_getElem? hx)
              rw [List.getElem?_take] at hx
              split at hx
              · rw [List.getElem?_drop] at hx
                obtain ⟨x', k1, k2⟩ := q4 (o + i) x hx
                rw [k2.eq_flat0 hfl] at k1
                rw [Nat.add_assoc]; exact k1
              · cases hx
            · rintro e w' ⟨rfl, hbl⟩
              have l1 : Like s { s with obl := s.obl ∧ p } := ⟨rfl, rfl, rfl, rfl, rfl⟩
              obtain ⟨g1, g2⟩ := hs.below hbl
              exact ⟨_, ρ, rfl, .of_flat a3, l1.holds g1, g2.like l1⟩
        · exact hK.call hc
      · exact hK.call hc
    · exact hK.call hc
def CallOk0 (P : Program) (f : FuncId) (args : List Value) (v : Value) : Prop := ∀ W : World, Calls P f args.toArray W fun e w' => e = .returned v ∧ Go.RowKit.Below W.heap.size W w'
def Given.tells (K : Given) (F : FuncId → List Value → Option (Prop × Value)) : Given := { K with call := fun f args s => match F f args with
  | some (p, v) => some (v, { s with obl := s.obl ∧ p })
  | none => K.call f args s }
theorem GivenOk.tells {P : Program} {K : Given} (hK : GivenOk P K) {F : FuncId → List Value → Option (Prop × Value)}
    (h : ∀ f args p v, F f args = some (p, v) → args.all flat = true ∧ flat v = true ∧ (p → CallOk0 P f args v)) : GivenOk P (Given.tells K F) := by
  refine ⟨fun {f args s s' v} hc => ?_, fun {f args s s' v} hc => ?_, hK.loopObl, hK.loop⟩
  · simp only [Given.tells] at hc
    split at hc
    · cases hc; exact fun k => k.1
    · exact hK.callObl hc
  · simp only [Given.tells] at hc
    split at hc
    · rename_i p v1 hF
      cases hc
      obtain ⟨a1, a2, a3⟩ := h _ _ _ _ hF
      intro ho n ρ w args' hs hl
      have : args' = args := hl.eq_flat a1
      subst this
      refine callsIn_wide.2 ((a3 ho.2 w).mono ?_)
      rintro e w' ⟨rfl, hb⟩
      have l1 : Like s { s with obl := s.obl ∧ p } := ⟨rfl, rfl, rfl, rfl, rfl⟩
      obtain ⟨g1, g2⟩ := hs.below hb
      exact ⟨_, ρ, rfl, .of_flat a2, l1.holds g1, g2.like l1⟩
    · exact hK.call hc
def HasRows (w : World) (b o n k : Nat) (g : Nat → List Value) : Prop := ∀ i, i < n → HasCells w b (o + i * k) (g i)
def rowsHeap (n k : Nat) (g : Nat → List Value) : Tr := Tr.rebuild (fun i => match i with | 0 => some (.cells (.rows n k g) 0) | _ => none) 1
theorem HasCells.rows {w : World} {b o n k : Nat} {g : Nat → List Value} (h : HasRows w b o n k g) (hk : 0 < k) {i : Nat} {v : Value} (hv : (Cells.rows n k g).get i = some v) :
    ∃ (pc : Array Value) (t : TypeId) (fr : Nat × Nat), w.heap[b]? = some (.cells pc t fr) ∧ pc[o + i]? = some v := by
  simp only [Cells.get] at hv
  split at hv
  · rename_i hi
    obtain ⟨pc, t, fr, h1, h2⟩ := h _ hi
    refine ⟨pc, t, fr, h1, ?_⟩
    have := h2 _ _ hv
    have e := Nat.div_add_mod i k
    rw [Nat.add_assoc, Nat.mul_comm (i / k) k, e] at this
    exact this
  · cases hv
end
end Go.Cln
namespace Go.Cln
set_option linter.unusedVariables false
theorem rows_start {w : World} {b o n k : Nat} {g : Nat → List Value} (orc : List (Option Bool)) (hk : 0 < k) (hn : 0 < n) (hg : ∀ i, (g i).all flat0 = true) (h : HasRows w b o n k g) :
    ∃ ρ : Nat → PB, Hs (St.start 1 (rowsHeap n k g) orc) ρ w ∧ ∀ m c, m ≤ c → VR (Dm (St.start 1 (rowsHeap n k g) orc)) ρ (.slice (some ⟨0, 0, none⟩) m c) (.slice (some ⟨b, o, none⟩) m c) := by
  obtain ⟨pc, t, fr, h1, _⟩ := h 0 hn
  refine ⟨fun _ => ⟨b, o, pc.size⟩, ⟨⟨fun x y hx => ?_, fun x x' y y' hx hx' _ _ => ?_, fun x x' y y' B hx hB hx' hk => absurd hk (by obtain ⟨g2, _⟩ := heap_at (by omega) (show (rowsHeap n k g).get x' = some y' from hx'); show ¬ 1 ≤ x'; omega)⟩, fun _ _ => rfl, ⟨Nat.le_refl _, fun x hx => by simp [St.start] at hx⟩⟩, fun n c hn => .slice ⟨Nat.zero_lt_one, rfl⟩ hn ⟨.inr rfl, fun _ => rfl, fun z hz => by cases hz⟩⟩
  · have hx' : (rowsHeap n k g).get x = some y := hx
    obtain ⟨g1, g2⟩ := heap_at (by omega) hx'
    have : x = 0 := by omega
    subst this
    simp only [Option.some.injEq] at g2
    subst g2
    refine ⟨⟨g1, rfl⟩, pc, t, fr, h1, rfl, fun m => absurd m (by simp [St.start]), fun i v hv => ?_⟩
    obtain ⟨pc', t', fr', q1, q2⟩ := HasCells.rows h hk hv
    rw [h1] at q1
    cases q1
    refine ⟨v, q2, .same ?_⟩
    simp only [Cells.get] at hv
    split at hv
    · exact List.all_eq_true.1 (hg _) v (List.mem_of_getElem? hv)
    · cases hv
  · obtain ⟨g1, _⟩ := heap_at (by omega) (show (rowsHeap n k g).get x = some y from hx)
    obtain ⟨g2, _⟩ := heap_at (by omega) (show (rowsHeap n k g).get x' = some y' from hx')
    omega
theorem ranR {P : Program} (G : PG P) {K : Given} (hK : GivenOk P K) {N m c n k : Nat} {g : Nat → List Value} {f : FuncId} {orc : List (Option Bool)} {v : Value} {p : Prop}
    (hr : ((mk P K N).call f [.slice (some ⟨0, 0, none⟩) m c] (St.start 1 (rowsHeap n k g) orc)).map (fun r => (r.1, r.2.obl)) = some (v, p)) (hp : p) (hk : 0 < k) (hn : 0 < n) (hg : ∀ i, (g i).all flat0 = true) (hv : flat v = true) (hm : m ≤ c)
    (W : World) (b o : Nat) (h : HasRows W b o n k g) : Calls P f #[.slice (some ⟨b, o, none⟩) m c] W fun e w' => e = .returned v ∧ Go.RowKit.Below W.heap.size W w' := by
  obtain ⟨ρ, g1, g2⟩ := rows_start orc hk hn hg h
  exact ranG G hK hr hp hv g1 (VL.cons (g2 m c hm) VL.nil)
end Go.Cln
namespace Go.Cln
set_option linter.unusedVariables false
def addO (d o : Nat) : Nat := match d with
  | 0 => o
  | d + 1 => d + 1 + o
theorem addO_eq (d o : Nat) : addO d o = d + o := by cases d <;> simp [addO]
def mvL (ν δ : Nat → Nat) : Value → Value
  | .pointer (some ⟨b, o, sp⟩) => if isAbs sp then .pointer (some ⟨b, o, sp⟩) else .pointer (some ⟨ν b, addO (δ b) o, sp⟩)
  | .slice (some ⟨b, o, sp⟩) n c => if isAbs sp then .slice (some ⟨b, o, sp⟩) n c else .slice (some ⟨ν b, addO (δ b) o, sp⟩) n c
  | .map (some b) => .map (some (ν b))
  | v => v
def mvA (r : Value → Value) (ν δ : Nat → Nat) : Value → Value
  | .agg x => .agg (x.toList.map r).toArray
  | .tuple x => .tuple (x.toList.map r).toArray
  | .func (.func f) x y => .func (.func f) (x.toList.map r).toArray (y.toList.map r).toArray
  | v => mvL ν δ v
def mv (ν δ : Nat → Nat) : Value → Value := mvA (mvA (mvL ν δ) ν δ) ν δ
def okNL (n : Nat) : Value → Bool
  | .pointer (some a) => decide ((if isAbs a.spot then 0 else a.block) < n)
  | .slice (some a) _ _ => decide ((if isAbs a.spot then 0 else a.block) < n)
  | .map (some b) => decide (b < n)
  | .chan (some 0) => true
  | v => flat0 v
def okNA (o : Value → Bool) (n : Nat) : Value → Bool
  | .agg x => x.toList.all o
  | .tuple x => x.toList.all o
  | .func (.func _) x y => x.toList.all o && y.toList.all o
  | v => okNL n v
def okN (n : Nat) : Value → Bool := okNA (okNA (okNL n) n) n
section
variable {N1 N2 : Nat → Prop} {ρ1 ρ2 : Nat → PB} {ν δ : Nat → Nat} {n : Nat}
def SamePl (ρ1 ρ2 : Nat → PB) (ν δ : Nat → Nat) (n : Nat) : Prop := ∀ b, b < n → (ρ2 b).blk = (ρ1 (ν b)).blk ∧ (ρ2 b).off = (ρ1 (ν b)).off + δ b ∧ (ρ2 b).len = (ρ1 (ν b)).len
theorem slice_pl (h : SamePl ρ1 ρ2 ν δ n) {b o c c' : Nat} {g : Option Nat} {a' : Addr} (hb : b < n) : SliceOk (ρ1 (ν b)) (addO (δ b) o) g c a' c' ↔ SliceOk (ρ2 b) o g c a' c' := by
  obtain ⟨h1, h2, h3⟩ := h b hb
  unfold SliceOk
  rw [h1, h2, h3, addO_eq, Nat.add_assoc]
theorem mvL_to (hs : SamePl ρ1 ρ2 ν δ n) (hN : ∀ b, b < n → N2 b) (v w : Value) (ho : okNL n v = true) (h : VR N1 ρ1 (mvL ν δ v) w) : VR N2 ρ2 v w := by
  have plain : flat0 v = true → mvL ν δ v = v → VR N2 ρ2 v w := fun hf e => by
    rw [e] at h; rw [h.eq_flat0 hf]; exact .same hf
  cases v with
  | pointer a =>
    cases a with
    | none => exact plain rfl rfl
    | some a =>
      obtain ⟨b, o, sp⟩ := a
      simp only [okNL, decide_eq_true_eq] at ho
      simp only [mvL] at h
      by_cases hg : isAbs sp = true
      · rw [if_pos hg] at h ho
        cases h with
        | same hf => simp [flat0] at hf
        | ptr _ => cases hg
        | absP _ hg => exact .absP (hN 0 ho) hg
      rw [if_neg hg] at h ho
      have hb : b < n := ho
      cases h with
      | same hf => simp [flat0] at hf
      | absP _ hg' => exact absurd hg' hg
      | ptr _ =>
        obtain ⟨h1, h2, _⟩ := hs b hb
        have e : (ρ1 (ν b)).off + addO (δ b) o = (ρ2 b).off + o := by rw [h2, addO_eq, Nat.add_assoc]
        rw [e, ← h1]; exact .ptr (hN b hb)
  | slice a m c =>
    cases a with
    | none => exact plain rfl rfl
    | some a =>
      obtain ⟨b, o, sp⟩ := a
      simp only [okNL, decide_eq_true_eq] at ho
      simp only [mvL] at h
      by_cases hg : isAbs sp = true
      · rw [if_pos hg] at h ho
        cases h with
        | same hf => simp [flat0] at hf
        | slice _ _ hok => rw [hok.noAbs] at hg; cases hg
        | abs _ hg hk => exact .abs (hN 0 ho) hg hk
      rw [if_neg hg] at h ho
      have hb : b < n := ho
      cases h with
      | same hf => simp [flat0] at hf
      | abs _ hg' _ => exact absurd hg' hg
      | slice _ hn hok => exact .slice (hN b hb) hn ((slice_pl hs hb).1 hok)
  | map b =>
    cases b with
    | none => exact plain rfl rfl
    | some b =>
      have hb : b < n := by simpa [okNL] using ho
      simp only [mvL] at h
      cases h with
      | same hf => simp [flat0] at hf
      | mapv _ => rw [← (hs b hb).1]; exact .mapv (hN b hb)
  | func f x y =>
    cases f with
    | yield l => simp [okNL, flat0] at ho
    | _ => exact plain ho rfl
  | chan r =>
    cases r with
    | none => exact plain ho rfl
    | some k =>
      cases k with
      | zero =>
        simp only [mvL] at h
        cases h with
        | same hf => simp [flat0] at hf
        | any hw => exact .any hw
      | succ k => exact plain ho rfl
  | _ => exact plain ho rfl
theorem mvL_from (hs : SamePl ρ1 ρ2 ν δ n) (h0 : N1 0) (hN : ∀ b, b < n → N2 b → N1 (ν b)) (v w : Value) (ho : okNL n v = true) (h : VR N2 ρ2 v w) : VR N1 ρ1 (mvL ν δ v) w := by
  have plain : flat0 v = true → mvL ν δ v = v → VR N1 ρ1 (mvL ν δ v) w := fun hf e => by
    rw [e]; rw [h.eq_flat0 hf]; exact .same hf
  cases v with
  | pointer a =>
    cases a with
    | none => exact plain rfl rfl
    | some a =>
      obtain ⟨b, o, sp⟩ := a
      simp only [okNL, decide_eq_true_eq] at ho
      simp only [mvL]
      by_cases hg : isAbs sp = true
      · rw [if_pos hg]
        cases h with
        | same hf => simp [flat0] at hf
        | ptr _ => cases hg
        | absP _ hg => exact .absP h0 hg
      rw [if_neg hg] at ho ⊢
      have hb : b < n := ho
      cases h with
      | same hf => simp [flat0] at hf
      | absP _ hg' => exact absurd hg' hg
      | ptr k =>
        obtain ⟨h1, h2, _⟩ := hs b hb
        have e : (ρ2 b).off + o = (ρ1 (ν b)).off + addO (δ b) o := by rw [h2, addO_eq, Nat.add_assoc]
        rw [e, h1]; exact .ptr (hN b hb k)
  | slice a m c =>
    cases a with
    | none => exact plain rfl rfl
    | some a =>
      obtain ⟨b, o, sp⟩ := a
      simp only [okNL, decide_eq_true_eq] at ho
      simp only [mvL]
      by_cases hg : isAbs sp = true
      · rw [if_pos hg]
        cases h with
        | same hf => simp [flat0] at hf
        | slice _ _ hok => rw [hok.noAbs] at hg; cases hg
        | abs _ hg hk => exact .abs h0 hg hk
      rw [if_neg hg] at ho ⊢
      have hb : b < n := ho
      cases h with
      | same hf => simp [flat0] at hf
      | abs _ hg' _ => exact absurd hg' hg
      | slice k hn hok => exact .slice (hN b hb k) hn ((slice_pl hs hb).2 hok)
  | map b =>
    cases b with
    | none => exact plain rfl rfl
    | some b =>
      have hb : b < n := by simpa [okNL] using ho
      simp only [mvL]
      cases h with
      | same hf => simp [flat0] at hf
      | mapv k => rw [(hs b hb).1]; exact .mapv (hN b hb k)
  | func f x y =>
    cases f with
    | yield l => simp [okNL, flat0] at ho
    | _ => exact plain ho rfl
  | chan r =>
    cases r with
    | none => exact plain ho rfl
    | some k =>
      cases k with
      | zero =>
        simp only [mvL]
        cases h with
        | same hf => simp [flat0] at hf
        | any hw => exact .any hw
      | succ k => exact plain ho rfl
  | _ => exact plain ho rfl
theorem mvA_to (hs : SamePl ρ1 ρ2 ν δ n) (hN : ∀ b, b < n → N2 b) {r : Value → Value} {o : Value → Bool} (hr : ∀ (v w : Value), o v = true → VR N1 ρ1 (r v) w → VR N2 ρ2 v w) :
    ∀ (v w : Value), okNA o n v = true → VR N1 ρ1 (mvA r ν δ v) w → VR N2 ρ2 v w := by
  have rows : ∀ (x : Array Value) (x' : Array Value), x.toList.all o = true → (x.toList.map r).toArray.toList.length = x'.toList.length → (∀ (i : Nat) (v w : Value), (x.toList.map r).toArray.toList[i]? = some v → x'.toList[i]? = some w → VR N1 ρ1 v w) →
      x.toList.length = x'.toList.length ∧ ∀ (i : Nat) (v w : Value), x.toList[i]? = some v → x'.toList[i]? = some w → VR N2 ρ2 v w := fun x x' ha h1 h2 => by
    refine ⟨by simpa using h1, fun i v w hv hw => ?_⟩
    refine hr v w (List.all_eq_true.1 ha v (List.mem_of_getElem? hv)) (h2 i _ w ?_ hw)
    show (x.toList.map r)[i]? = some (r v)
    rw [List.getElem?_map, hv]; rfl
  intro v w ho h
  cases v with
  | agg x =>
    simp only [mvA] at h
    cases h with
    | same hf => simp [flat0] at hf
    | agg h1 h2 => obtain ⟨a, b⟩ := rows x _ ho h1 h2; exact .agg a b
  | tuple x =>
    simp only [mvA] at h
    cases h with
    | same hf => simp [flat0] at hf
    | tup h1 h2 => obtain ⟨a, b⟩ := rows x _ ho h1 h2; exact .tup a b
  | func f x y =>
    cases f with
    | func f =>
      simp only [mvA] at h
      simp only [okNA, Bool.and_eq_true] at ho
      cases h with
      | same hf =>
        simp only [flat0, Bool.and_eq_true, List.isEmpty_iff, List.map_eq_nil_iff] at hf
        obtain ⟨hx, hy⟩ := hf
        obtain ⟨x⟩ := x; obtain ⟨y⟩ := y
        simp only at hx hy
        subst hx; subst hy
        exact .same rfl
      | fn h1 h2 h3 h4 => obtain ⟨a, b⟩ := rows x _ ho.1 h1 h2; obtain ⟨c, d⟩ := rows y _ ho.2 h3 h4; exact .fn a b c d
    | _ => exact mvL_to hs hN _ _ ho h
  | _ => exact mvL_to hs hN _ _ ho h
theorem mvA_from (hs : SamePl ρ1 ρ2 ν δ n) (h0 : N1 0) (hN : ∀ b, b < n → N2 b → N1 (ν b)) {r : Value → Value} {o : Value → Bool} (hr : ∀ (v w : Value), o v = true → VR N2 ρ2 v w → VR N1 ρ1 (r v) w) :
    ∀ (v w : Value), okNA o n v = true → VR N2 ρ2 v w → VR N1 ρ1 (mvA r ν δ v) w := by
  have rows : ∀ (x : Array Value) (x' : Array Value), x.toList.all o = true → x.toList.length = x'.toList.length → (∀ (i : Nat) (v w : Value), x.toList[i]? = some v → x'.toList[i]? = some w → VR N2 ρ2 v w) →
      (x.toList.map r).toArray.toList.length = x'.toList.length ∧ ∀ (i : Nat) (v w : Value), (x.toList.map r).toArray.toList[i]? = some v → x'.toList[i]? = some w → VR N1 ρ1 v w := fun x x' ha h1 h2 => by
    refine ⟨by simpa using h1, fun i v w hv hw => ?_⟩
    have hv : (x.toList.map r)[i]? = some v := hv
    rw [List.getElem?_map, Option.map_eq_some_iff] at hv
    obtain ⟨v0, hv0, rfl⟩ := hv
    exact hr v0 w (List.all_eq_true.1 ha v0 (List.mem_of_getElem? hv0)) (h2 i v0 w hv0 hw)
  intro v w ho h
  cases v with
  | agg x =>
    simp only [mvA]
    cases h with
    | same hf => simp [flat0] at hf
    | agg h1 h2 => obtain ⟨a, b⟩ := rows x _ ho h1 h2; exact .agg a b
  | tuple x =>
    simp only [mvA]
    cases h with
    | same hf => simp [flat0] at hf
    | tup h1 h2 => obtain ⟨a, b⟩ := rows x _ ho h1 h2; exact .tup a b
  | func f x y =>
    cases f with
    | func f =>
      simp only [mvA]
      simp only [okNA, Bool.and_eq_true] at ho
      cases h with
      | same hf =>
        simp only [flat0, Bool.and_eq_true, List.isEmpty_iff] at hf
        obtain ⟨hx, hy⟩ := hf
        obtain ⟨x⟩ := x; obtain ⟨y⟩ := y
        simp only at hx hy
        subst hx; subst hy
        exact .same rfl
      | fn h1 h2 h3 h4 => obtain ⟨a, b⟩ := rows x _ ho.1 h1 h2; obtain ⟨c, d⟩ := rows y _ ho.2 h3 h4; exact .fn a b c d
    | _ => exact mvL_from hs h0 hN (.func _ x y) w ho h
  | bool a => exact mvL_from hs h0 hN (.bool a) w ho h
  | int a b => exact mvL_from hs h0 hN (.int a b) w ho h
  | float a b => exact mvL_from hs h0 hN (.float a b) w ho h
  | complex a b c => exact mvL_from hs h0 hN (.complex a b c) w ho h
  | string a => exact mvL_from hs h0 hN (.string a) w ho h
  | pointer a => exact mvL_from hs h0 hN (.pointer a) w ho h
  | slice a b c => exact mvL_from hs h0 hN (.slice a b c) w ho h
  | map a => exact mvL_from hs h0 hN (.map a) w ho h
  | chan a => exact mvL_from hs h0 hN (.chan a) w ho h
  | nilFunc => exact mvL_from hs h0 hN .nilFunc w ho h
  | nilIface => exact mvL_from hs h0 hN .nilIface w ho h
  | iface a b => exact mvL_from hs h0 hN (.iface a b) w ho h
theorem mv_to (hs : SamePl ρ1 ρ2 ν δ n) (hN : ∀ b, b < n → N2 b) (v w : Value) (ho : okN n v = true) (h : VR N1 ρ1 (mv ν δ v) w) : VR N2 ρ2 v w :=
  mvA_to hs hN (mvA_to hs hN (mvL_to hs hN)) v w ho h
theorem mv_from (hs : SamePl ρ1 ρ2 ν δ n) (h0 : N1 0) (hN : ∀ b, b < n → N2 b → N1 (ν b)) (v w : Value) (ho : okN n v = true) (h : VR N2 ρ2 v w) : VR N1 ρ1 (mv ν δ v) w :=
  mvA_from hs h0 hN (mvA_from hs h0 hN (mvL_from hs h0 hN)) v w ho h
end
def hget (l : List (Option Ob)) (b : Nat) : Option Ob := match l[b]? with
  | some o => o
  | none => none
noncomputable def Tr.ofL (l : List (Option Ob)) : Tr := Tr.rebuild (hget l) l.length
theorem ofL_get {l : List (Option Ob)} (hl : l.length ≤ 1000000) (b : Nat) : (Tr.ofL l).get b = hget l b := by
  unfold Tr.ofL
  rw [Tr.get_rebuild _ _ _ hl]
  split
  · rfl
  · unfold hget; rw [List.getElem?_eq_none (by omega)]
structure Inst where
  win : List (Nat × Nat)
  ro : Nat
  heap : List (Option Ob)
  args : List Value
  val : Value
  heap' : List (Option Ob)
  ask : Prop
noncomputable def smSt (ro : Nat) (l : List (Option Ob)) (orc : List (Option Bool)) : St := ⟨[], [], Tr.ofL l, l.length, ro, [], fun _ => false, True, orc⟩
theorem smMay {ro : Nat} {l : List (Option Ob)} {orc : List (Option Bool)} {b : Nat} : (smSt ro l orc).may b = true ↔ ro ≤ b := by
  have e : (smSt ro l orc).may b = (decide (ro ≤ b) && !([] : List Nat).contains b) := rfl
  rw [e, Bool.and_eq_true]
  exact ⟨fun h => of_decide_eq_true h.1, fun h => ⟨decide_eq_true h, rfl⟩⟩
def Inst.nu (i : Inst) (base b : Nat) : Nat := match i.win[b]? with
  | some p => p.1
  | none => base + (b - i.win.length)
def Inst.del (i : Inst) (b : Nat) : Nat := match i.win[b]? with
  | some p => p.2
  | none => 0
def okOb (n : Nat) : Option Ob → Bool
  | some (.cells (.lit l) _) => l.all (okN n)
  | some (.cells (.ints _ _) _) => true
  | some (.fam _) => true
  | some _ => false
  | none => true
def mvOb (ν δ : Nat → Nat) : Ob → Ob
  | .cells (.lit l) t => .cells (.lit (l.map (mv ν δ))) t
  | o => o
noncomputable def Inst.lay (i : Inst) (base : Nat) : List (Option Ob) → Nat → Tr → Option Tr
  | [], _, h => some h
  | o :: l, j, h => if j < i.ro then Inst.lay i base l (j + 1) h else (h.put 64 (i.nu base j) (o.map (mvOb (i.nu base) i.del))).bind fun h => Inst.lay i base l (j + 1) h
def winOk (s : St) (ro : Nat) : List (Nat × Nat) → Nat → List Nat → Bool
  | [], _, _ => true
  | p :: l, j, seen => (if j < ro then !(l.drop (ro - (j + 1))).any (fun q => q.1 == p.1) else s.may p.1 && p.2 == 0 && !l.any (fun q => q.1 == p.1)) && winOk s ro l (j + 1) seen
noncomputable def Inst.app (i : Inst) (s : St) : Option (Value × St) :=
  if i.win.length = i.heap.length ∧ i.heap.length ≤ i.heap'.length ∧ i.heap'.length ≤ 1000000 ∧ i.ro ≤ i.heap.length ∧ i.args.all (okN i.win.length) = true ∧ i.heap.all (okOb i.win.length) = true ∧ okN i.heap'.length i.val = true ∧ i.heap'.all (okOb i.heap'.length) = true ∧ winOk s i.ro i.win 0 [] = true ∧ i.win.all (fun p => decide (p.1 < s.next) && !s.hid p.1) = true ∧ (decide (0 < s.next) && !s.hid 0) = true then
    (i.lay s.next i.heap' 0 s.heap).bind fun h => some (mv (i.nu s.next) i.del i.val, { s with heap := h, next := s.next + (i.heap'.length - i.heap.length), obl := s.obl ∧ i.ask })
  else none
structure Fits (s : St) (i : Inst) (args : List Value) : Prop where
  args : args = i.args.map (mv (i.nu s.next) i.del)
  ob : ∀ (j : Nat) (p : Nat × Nat) (o : Ob), i.win[j]? = some p → i.heap[j]? = some (some o) → ∃ O, s.heap.get p.1 = some O ∧ match o, O with
    | .fam F, .fam G => ∀ (g P x : Nat) (v : Value), (F g P).get x = some v → (G g P).get x = some v
    | .cells c _, .cells C _ => ∀ (x : Nat) (v : Value), c.get x = some v → ∃ V, C.get (p.2 + x) = some V ∧ V = mv (i.nu s.next) i.del v ∧ okN i.win.length v = true
    | _, _ => False
noncomputable def Inst.s0 (i : Inst) : St := smSt i.ro i.heap []
noncomputable def Inst.s1 (i : Inst) : St := { smSt i.ro i.heap' [] with next := i.heap'.length }
theorem CallOk.sub {P : Program} {f : FuncId} {args : List Value} {s s' t' : St} {v : Value} (h : CallOk P f args s v s') (ho : s'.obl) (hs : Sub s' t') (hsame : ∀ b, s.may b = false → t'.heap.get b = s.heap.get b) : CallOk P f args s v t' := fun _ n ρ w args' hh ha => by
  refine callsIn_wide.2 ((callsIn_wide.1 (h ho n ρ w args' hh ha)).mono ?_)
  rintro e w' ⟨v', ρ', rfl, g1, g2, g3⟩
  refine ⟨v', ρ', rfl, by rw [hs.dm]; exact g1, hs.hs g2, ⟨by rw [hs.next]; exact g3.next, g3.ext, g3.os, g3.tape, g3.output, g3.size, g3.frame, fun b o hb hm => ?_, by rw [hs.roB]; exact g3.roB, by rw [hs.ro]; exact g3.ro, by rw [hs.hid]; exact g3.hid, hsame⟩⟩
  obtain ⟨o1, k1, _⟩ := hs.ob b o hb
  exact g3.own b o1 k1 (by rw [← may_of hs.roB hs.ro]; exact hm)
theorem lay_get (i : Inst) (base : Nat) (hinj : ∀ j j', i.ro ≤ j → i.ro ≤ j' → i.nu base j = i.nu base j' → j = j') : ∀ (l : List (Option Ob)) (j : Nat) (h h' : Tr), i.lay base l j h = some h' → ∀ b, (∀ k o, l[k]? = some o → i.ro ≤ j + k → b = i.nu base (j + k) → h'.get b = o.map (mvOb (i.nu base) i.del)) ∧ ((∀ k, k < l.length → i.ro ≤ j + k → b ≠ i.nu base (j + k)) → h'.get b = h.get b)
  | [], j, h, h', e, b => by
    simp only [Inst.lay, Option.some.injEq] at e; subst e
    exact ⟨fun k o hk => by simp at hk, fun _ => rfl⟩
  | o :: l, j, h, h', e, b => by
    simp only [Inst.lay] at e
    split at e
    · rename_i hj
      obtain ⟨g1, g2⟩ := lay_get i base hinj l (j + 1) h h' e b
      refine ⟨fun k x hk hr hb => ?_, fun hn => g2 fun k hk hr => ?_⟩
      · cases k with
        | zero => omega
        | succ k => exact g1 k x (by simpa using hk) (by omega) (by rw [show j + 1 + k = j + (k + 1) by omega]; exact hb)
      · rw [show j + 1 + k = j + (k + 1) by omega]; exact hn (k + 1) (by simpa using hk) (by omega)
    · rename_i hj
      rw [bind_some] at e
      obtain ⟨h1, e1, e⟩ := e
      obtain ⟨g1, g2⟩ := lay_get i base hinj l (j + 1) h1 h' e b
      refine ⟨fun k x hk hr hb => ?_, fun hn => ?_⟩
      · cases k with
        | zero =>
          simp only [List.getElem?_cons_zero, Option.some.injEq] at hk; subst hk
          rw [g2, Tr.get_put _ _ _ _ _ e1, if_pos (by simpa using hb)]
          intro k hk hr' hbe
          have := hinj (j + 0) (j + 1 + k) (by omega) hr' (hb.symm.trans hbe)
          omega
        | succ k => exact g1 k x (by simpa using hk) (by omega) (by rw [show j + 1 + k = j + (k + 1) by omega]; exact hb)
      · rw [g2 fun k hk hr => by rw [show j + 1 + k = j + (k + 1) by omega]; exact hn (k + 1) (by simpa using hk) (by omega), Tr.get_put _ _ _ _ _ e1, if_neg (by simpa using hn 0 (by simp) (by omega))]
theorem winOk_spec {s : St} {ro : Nat} {seen : List Nat} : ∀ {l : List (Nat × Nat)} {j : Nat}, winOk s ro l j seen = true →
    (∀ k p, l[k]? = some p → ro ≤ j + k → s.may p.1 = true ∧ p.2 = 0) ∧ ∀ k k' p p', l[k]? = some p → l[k']? = some p' → k < k' → (ro ≤ j + k ∨ ro ≤ j + k') → p.1 ≠ p'.1
  | [], j, h => ⟨fun k p hk => by simp at hk, fun k k' p p' hk => by simp at hk⟩
  | q :: l, j, h => by
    simp only [winOk, Bool.and_eq_true] at h
    obtain ⟨h1, h2⟩ := h
    obtain ⟨g1, g2⟩ := winOk_spec h2
    refine ⟨fun k p hk hr => ?_, fun k k' p p' hk hk' hlt hr => ?_⟩
    · cases k with
      | zero =>
        simp only [List.getElem?_cons_zero, Option.some.injEq] at hk; subst hk
        rw [if_neg (by omega)] at h1
        simp only [Bool.and_eq_true] at h1
        exact ⟨h1.1.1, by simpa using h1.1.2⟩
      | succ k => exact g1 k p (by simpa using hk) (by omega)
    · cases k with
      | zero =>
        simp only [List.getElem?_cons_zero, Option.some.injEq] at hk; subst hk
        cases k' with
        | zero => omega
        | succ k' =>
          have hk' : l[k']? = some p' := by simpa using hk'
          split at h1
          · rename_i hj
            have hr' : ro ≤ j + (k' + 1) := by omega
            have h1 : (l.drop (ro - (j + 1))).any (fun x => x.1 == q.1) = false := by simpa using h1
            rw [List.any_eq_false] at h1
            have hm : p' ∈ l.drop (ro - (j + 1)) := by
              refine List.mem_of_getElem? (i := k' - (ro - (j + 1))) ?_
              rw [List.getElem?_drop, show ro - (j + 1) + (k' - (ro - (j + 1))) = k' by omega]; exact hk'
            intro e
            exact h1 p' hm (by simp [e])
          · simp only [Bool.and_eq_true] at h1
            have h1 : l.any (fun x => x.1 == q.1) = false := by simpa using h1.2
            rw [List.any_eq_false] at h1
            intro e
            exact h1 p' (List.mem_of_getElem? hk') (by simp [e])
      | succ k =>
        cases k' with
        | zero => omega
        | succ k' => exact g2 k k' p p' (by simpa using hk) (by simpa using hk') (by omega) (by omega)
theorem frame_sound {P : Program} {f : FuncId} {i : Inst} {s s' : St} {v : Value} {args : List Value} (hc : CallOk P f i.args i.s0 i.val i.s1) (hfit : Fits s i args) (happ : i.app s = some (v, s')) : CallOk P f args s v s' := by
  unfold Inst.app at happ
  split at happ
  · rename_i hcond
    obtain ⟨c1, c2, c3, c4, c5, c6, c7, c8, c9, c10, c11⟩ := hcond
    rw [bind_some] at happ
    obtain ⟨h', hlay, happ⟩ := happ
    simp only [Option.some.injEq, Prod.mk.injEq] at happ
    obtain ⟨rfl, rfl⟩ := happ
    intro ho n ρ w args' hs ha
    obtain ⟨w1, w2⟩ := winOk_spec c9
    have wd : ∀ (j : Nat) (p : Nat × Nat), i.win[j]? = some p → Dm s p.1 := fun j p hp => by
      have := List.all_eq_true.1 c10 p (List.mem_of_getElem? hp)
      rw [Bool.and_eq_true] at this
      exact ⟨of_decide_eq_true this.1, by simpa using this.2⟩
    have wex : ∀ j, j < i.win.length → ∃ p, i.win[j]? = some p := fun j hj => ⟨_, List.getElem?_eq_getElem hj⟩
    have nu_lo : ∀ (j : Nat) (p : Nat × Nat), i.win[j]? = some p → i.nu s.next j = p.1 ∧ i.del j = p.2 := fun j p hp => by simp [Inst.nu, Inst.del, hp]
    have nu_hi : ∀ j, i.win.length ≤ j → i.nu s.next j = s.next + (j - i.win.length) ∧ i.del j = 0 := fun j hj => by simp [Inst.nu, Inst.del, List.getElem?_eq_none hj]
    have hinj : ∀ j j', i.ro ≤ j → i.ro ≤ j' → i.nu s.next j = i.nu s.next j' → j = j' := fun j j' hj hj' e => by
      rcases Nat.lt_or_ge j i.win.length with h1 | h1
      · obtain ⟨p, hp⟩ := wex j h1
        rw [(nu_lo j p hp).1] at e
        rcases Nat.lt_or_ge j' i.win.length with h2 | h2
        · obtain ⟨p', hp'⟩ := wex j' h2
          rw [(nu_lo j' p' hp').1] at e
          rcases Nat.lt_trichotomy j j' with hl | hl | hl
          · exact absurd e (w2 j j' p p' hp hp' hl (by omega))
          · exact hl
          · exact absurd e.symm (w2 j' j p' p hp' hp hl (by omega))
        · rw [(nu_hi j' h2).1] at e
          have := (wd j p hp).1; omega
      · rw [(nu_hi j h1).1] at e
        rcases Nat.lt_or_ge j' i.win.length with h2 | h2
        · obtain ⟨p', hp'⟩ := wex j' h2
          rw [(nu_lo j' p' hp').1] at e
          have := (wd j' p' hp').1; omega
        · rw [(nu_hi j' h2).1] at e; omega
    -- the world, as the small picture sees it
    have e0 : i.s0.next = i.win.length := c1.symm
    let ρ0 : Nat → PB := fun b => ⟨(ρ (i.nu s.next b)).blk, (ρ (i.nu s.next b)).off + i.del b, (ρ (i.nu s.next b)).len⟩
    have pl : SamePl ρ ρ0 (i.nu s.next) i.del i.win.length := fun b _ => ⟨rfl, rfl, rfl⟩
    have dm0 : ∀ b, b < i.win.length → Dm i.s0 b := fun b hb => ⟨by rw [e0]; exact hb, rfl⟩
    have get0 : ∀ b, i.s0.heap.get b = hget i.heap b := fun b => ofL_get (by omega) b
    have hs0 : Hs i.s0 ρ0 w := by
      have lt : ∀ {b o}, hget i.heap b = some o → b < i.win.length := fun {b o} h => by
        unfold hget at h
        rcases Nat.lt_or_ge b i.heap.length with h1 | h1
        · omega
        · rw [List.getElem?_eq_none h1] at h; cases h
      have hh : ∀ {b o}, hget i.heap b = some o → i.heap[b]? = some (some o) := fun {b o} h => by
        unfold hget at h
        split at h
        · rename_i h1; rw [h1, h]
        · cases h
      have mroB : ∀ {x : Nat}, s.may x = true → s.roB ≤ x := fun {x} hm => by
        unfold St.may at hm; rw [Bool.and_eq_true] at hm; exact of_decide_eq_true hm.1
      refine ⟨⟨fun b o hb => ?_, fun b b' o o' hb hb' hk e => ?_, fun b b' o o' B hb hB hb' hk => ?_⟩, fun _ _ => rfl, ⟨c4, fun x hx => by simp [Inst.s0, smSt] at hx⟩⟩
      rotate_left 2
      · rw [get0] at hb hb'
        obtain ⟨p, hp⟩ := wex b (lt hb)
        obtain ⟨p', hp'⟩ := wex b' (lt hb')
        obtain ⟨O, hO, hf⟩ := hfit.ob b p o hp (hh hb)
        obtain ⟨O', hO', _⟩ := hfit.ob b' p' o' hp' (hh hb')
        obtain ⟨F, g, P0, x, v, rfl, hx, hPB⟩ := hB
        cases O with
        | fam G =>
          have := hs.far p.1 p'.1 (.fam G) O' B hO ⟨G, g, P0, x, v, rfl, hf g P0 x v hx, hPB⟩ hO' (mroB (w1 b' p' hp' (by have hk : i.ro ≤ b' := hk; omega)).1)
          show (ρ (i.nu s.next b')).blk ≠ B
          rw [(nu_lo b' p' hp').1]; exact this
        | _ => exact hf.elim
      · rw [get0] at hb
        unfold hget at hb
        split at hb
        · rename_i o1 hb1
          subst hb
          have hlt : b < i.win.length := by
            rcases Nat.lt_or_ge b i.heap.length with h | h
            · omega
            · rw [List.getElem?_eq_none h] at hb1; cases hb1
          obtain ⟨p, hp⟩ := wex b hlt
          obtain ⟨O, hO, hfits⟩ := hfit.ob b p o hp hb1
          refine ⟨dm0 b hlt, ?_⟩
          obtain ⟨_, hob⟩ := hs.ob _ _ hO
          cases o with
          | cells c t =>
            cases O with
            | cells C T =>
              obtain ⟨pc, ty, fr, g1, g2, g3, g4⟩ := hob
              refine ⟨pc, ty, fr, ?_, ?_, fun hm => ?_, fun x vv hv => ?_⟩
              · show w.heap[(ρ (i.nu s.next b)).blk]? = _; rw [(nu_lo b p hp).1]; exact g1
              · show pc.size = (ρ (i.nu s.next b)).len; rw [(nu_lo b p hp).1]; exact g2
              · refine g3 ?_
                have := (w1 b p hp (by simpa [Inst.s0, smSt] using hm)).1
                unfold St.may at this
                rw [Bool.and_eq_true] at this
                exact of_decide_eq_true this.1
              · obtain ⟨V, hV, hVe, hok⟩ := hfits x vv hv
                obtain ⟨V', k1, k2⟩ := g4 _ V hV
                refine ⟨V', ?_, ?_⟩
                · show pc[(ρ (i.nu s.next b)).off + i.del b + x]? = _
                  rw [(nu_lo b p hp).1, (nu_lo b p hp).2, Nat.add_assoc]; exact k1
                · rw [hVe] at k2
                  exact mv_to pl dm0 vv V' hok k2
            | _ => exact hfits.elim
          | fam F =>
            cases O with
            | fam G =>
              obtain ⟨g1, g3⟩ := hob
              refine ⟨fun hm => g1 (mroB (w1 b p hp (by have hm : i.ro ≤ b := hm; omega)).1), fun g P0 x vv hv => ?_⟩
              · obtain ⟨pc, ty, fr, v', k1, k2, k3, k4⟩ := g3 g P0 x vv (hfits g P0 x vv hv)
                exact ⟨pc, ty, fr, v', k1, k2, famV_vr k3 k4 (dm0 0 (by omega)), k4⟩
            | _ => exact hfits.elim
          | _ => exact hfits.elim
        · cases hb
      · rw [get0] at hb hb'
        have lt : ∀ {b o}, hget i.heap b = some o → b < i.win.length := fun {b o} h => by
          unfold hget at h
          rcases Nat.lt_or_ge b i.heap.length with h1 | h1
          · omega
          · rw [List.getElem?_eq_none h1] at h; cases h
        obtain ⟨p, hp⟩ := wex b (lt hb)
        obtain ⟨p', hp'⟩ := wex b' (lt hb')
        have hh : ∀ {b o}, hget i.heap b = some o → i.heap[b]? = some (some o) := fun {b o} h => by
          unfold hget at h
          split at h
          · rename_i h1; rw [h1, h]
          · cases h
        obtain ⟨O, hO, qO⟩ := hfit.ob b p o hp (hh hb)
        obtain ⟨O', hO', qO'⟩ := hfit.ob b' p' o' hp' (hh hb')
        have e1 : (ρ p.1).blk = (ρ p'.1).blk := by
          have : (ρ (i.nu s.next b)).blk = (ρ (i.nu s.next b')).blk := e
          rw [(nu_lo b p hp).1, (nu_lo b' p' hp').1] at this; exact this
        have hk' : i.ro ≤ b ∨ i.ro ≤ b' := hk
        have mroB : ∀ {x : Nat}, s.may x = true → s.roB ≤ x := fun {x} hm => by
          unfold St.may at hm; rw [Bool.and_eq_true] at hm; exact of_decide_eq_true hm.1
        have soft : ∀ {o O : Ob} {p : Nat × Nat}, (match o, O with
            | .fam F, .fam G => ∀ (g P x : Nat) (v : Value), (F g P).get x = some v → (G g P).get x = some v
            | .cells c _, .cells C _ => ∀ (x : Nat) (v : Value), c.get x = some v → ∃ V, C.get (p.2 + x) = some V ∧ V = mv (i.nu s.next) i.del v ∧ okN i.win.length v = true
            | _, _ => False) → O.soft = true → o.soft = true := fun {o O p} h k => by
          cases O with
          | fam G => cases o with
            | fam F => rfl
            | _ => exact h.elim
          | _ => cases k
        refine (hs.inj p.1 p'.1 O O' hO hO' (hk'.elim (fun h => .inl (mroB (w1 b p hp (by omega)).1)) fun h => .inr (mroB (w1 b' p' hp' (by omega)).1)) e1).imp (fun e2 => ?_) (Or.imp (soft (p := p) qO) (soft (p := p') qO'))
        rcases Nat.lt_trichotomy b b' with hl | hl | hl
        · exact absurd e2 (w2 b b' p p' hp hp' hl (by omega))
        · exact hl
        · exact absurd e2.symm (w2 b' b p' p hp' hp hl (by omega))
    have ha0 : VL (Dm i.s0) ρ0 i.args args' := by
      rw [hfit.args] at ha
      refine ⟨by simpa using ha.1, fun x a b hx hb => ?_⟩
      refine mv_to pl dm0 a b (List.all_eq_true.1 c5 a (List.mem_of_getElem? hx)) (ha.2 x _ b ?_ hb)
      rw [List.getElem?_map, hx]; rfl
    refine callsIn_wide.2 ((callsIn_wide.1 (hc trivial n ρ0 w args' hs0 ha0)).mono ?_)
    rintro e w' ⟨v', ρ', rfl, g1, g2, g3⟩
    let ρ2 : Nat → PB := fun b => if b < s.next then ρ b else ρ' (b - s.next + i.win.length)
    have n1 : i.s1.next = i.heap'.length := rfl
    have get1 : ∀ b, i.s1.heap.get b = hget i.heap' b := fun b => ofL_get c3 b
    have rhoLo : ∀ b, b < s.next → ρ2 b = ρ b := fun b hb => if_pos hb
    have rhoHi : ∀ j, i.win.length ≤ j → ρ2 (i.nu s.next j) = ρ' j := fun j hj => by
      rw [(nu_hi j hj).1]
      show (if _ then _ else _) = _
      rw [if_neg (by omega)]
      congr 1; omega
    have pl2 : SamePl ρ2 ρ' (i.nu s.next) i.del i.heap'.length := fun b hb => by
      rcases Nat.lt_or_ge b i.win.length with h1 | h1
      · obtain ⟨p, hp⟩ := wex b h1
        have e1 : ρ' b = ρ0 b := g3.ext b (by rw [e0]; exact h1)
        rw [e1]
        have : ρ2 (i.nu s.next b) = ρ (i.nu s.next b) := rhoLo _ (by rw [(nu_lo b p hp).1]; exact (wd b p hp).1)
        rw [this]; exact ⟨rfl, rfl, rfl⟩
      · rw [rhoHi b h1, (nu_hi b h1).2]; exact ⟨rfl, rfl, rfl⟩
    let s2 : St := { s with heap := h', next := s.next + (i.heap'.length - i.heap.length), obl := s.obl ∧ i.ask }
    have dm2 : ∀ b, b < i.heap'.length → Dm i.s1 b → Dm s2 (i.nu s.next b) := fun b hb _ => by
      rcases Nat.lt_or_ge b i.win.length with h1 | h1
      · obtain ⟨p, hp⟩ := wex b h1
        rw [(nu_lo b p hp).1]
        have := wd b p hp
        exact ⟨by show p.1 < s.next + _; have := this.1; omega, this.2⟩
      · rw [(nu_hi b h1).1]
        exact ⟨by show _ < s.next + _; omega, hs.hid _ (by omega)⟩
    have up : ∀ b, Dm s b → Dm s2 b := fun b hb => ⟨by show b < s.next + _; have := hb.1; omega, hb.2⟩
    have z2 : Dm s2 0 := up 0 (by
      rw [Bool.and_eq_true] at c11
      exact ⟨of_decide_eq_true c11.1, by simpa using c11.2⟩)
    have lay := fun b => lay_get i s.next hinj i.heap' 0 s.heap h' hlay b
    -- which blocks are there
    have cases' : ∀ (b : Nat) (o : Ob), h'.get b = some o → (∃ j o1, i.ro ≤ j ∧ j < i.heap'.length ∧ b = i.nu s.next j ∧ i.s1.heap.get j = some o1 ∧ o = mvOb (i.nu s.next) i.del o1 ∧ okOb i.heap'.length (some o1) = true) ∨ ((∀ j, j < i.heap'.length → i.ro ≤ j → b ≠ i.nu s.next j) ∧ s.heap.get b = some o) := fun b o hb => by
      by_cases hx : ∃ j, j < i.heap'.length ∧ i.ro ≤ j ∧ b = i.nu s.next j
      · obtain ⟨j, h1, h2, h3⟩ := hx
        left
        have hj : i.heap'[j]? = some i.heap'[j] := List.getElem?_eq_getElem h1
        have := (lay b).1 j _ hj (by omega) (by rw [Nat.zero_add]; exact h3)
        rw [hb] at this
        cases ho1 : i.heap'[j] with
        | none => rw [ho1] at this; cases this
        | some o1 =>
          rw [ho1] at this hj
          simp only [Option.map_some, Option.some.injEq] at this
          refine ⟨j, o1, h2, h1, h3, by rw [get1]; unfold hget; rw [hj], this, List.all_eq_true.1 c8 _ (List.mem_of_getElem? hj)⟩
      · right
        have hn : ∀ j, j < i.heap'.length → i.ro ≤ j → b ≠ i.nu s.next j := fun j h1 h2 h3 => hx ⟨j, h1, h2, h3⟩
        refine ⟨hn, ?_⟩
        rw [← (lay b).2 fun k hk hr => by rw [Nat.zero_add]; exact hn k hk (by omega)]; exact hb
    have mroB : ∀ {x : Nat}, s.may x = true → s.roB ≤ x := fun {x} hm => by
      unfold St.may at hm; rw [Bool.and_eq_true] at hm; exact of_decide_eq_true hm.1
    have may_hi : ∀ b, s.next ≤ b → s.may b = true := fun b hb => by
      cases hm : s.may b with
      | true => rfl
      | false => have := may_lt hs hm; omega
    have may_nu : ∀ j, i.ro ≤ j → s.may (i.nu s.next j) = true := fun j hj => by
      rcases Nat.lt_or_ge j i.win.length with h1 | h1
      · obtain ⟨p, hp⟩ := wex j h1
        rw [(nu_lo j p hp).1]; exact (w1 j p hp (by omega)).1
      · rw [(nu_hi j h1).1]; exact may_hi _ (by omega)
    -- a block of the small picture that may be written: in the world, a block of ours, or a new one
    have blk_of : ∀ (j : Nat) (o1 : Ob), i.ro ≤ j → i.s1.heap.get j = some o1 → w.heap.size ≤ (ρ' j).blk ∨ ∃ (p : Nat × Nat) (O : Ob) (j0 : Nat), i.win[j0]? = some p ∧ i.ro ≤ j0 ∧ s.may p.1 = true ∧ s.heap.get p.1 = some O ∧ (ρ p.1).blk = (ρ' j).blk := fun j o1 hj h1 => by
      have hm : i.s1.may j = true := by simp [Inst.s1, smSt, St.may, hj]
      rcases g3.own j o1 h1 hm with h2 | ⟨b0, o0, h2, h3, h4⟩
      · exact .inl h2
      · rw [get0] at h2
        have hlt : b0 < i.win.length := by
          unfold hget at h2
          rcases Nat.lt_or_ge b0 i.heap.length with h1 | h1
          · omega
          · rw [List.getElem?_eq_none h1] at h2; cases h2
        obtain ⟨p, hp⟩ := wex b0 hlt
        have hr : i.ro ≤ b0 := smMay.1 h3
        have hh : i.heap[b0]? = some (some o0) := by
          unfold hget at h2
          split at h2
          · rename_i h5; rw [h5, h2]
          · cases h2
        obtain ⟨O, hO, _⟩ := hfit.ob b0 p o0 hp hh
        refine .inr ⟨p, O, b0, hp, hr, (w1 b0 p hp (by omega)).1, hO, ?_⟩
        have : (ρ (i.nu s.next b0)).blk = (ρ' j).blk := h4
        rw [(nu_lo b0 p hp).1] at this; exact this
    have kept : ∀ (b : Nat) (o : Ob), s.heap.get b = some o → (∀ j, j < i.heap'.length → i.ro ≤ j → b ≠ i.nu s.next j) → o.soft = false → w'.heap[(ρ b).blk]? = w.heap[(ρ b).blk]? := fun b o hb hn q => by
      obtain ⟨_, hob⟩ := hs.ob b o hb
      refine g3.frame _ (hob.lt q) fun b0 o0 hb0 hm0 e => ?_
      rw [get0] at hb0
      have hlt : b0 < i.win.length := by
        unfold hget at hb0
        rcases Nat.lt_or_ge b0 i.heap.length with h1 | h1
        · omega
        · rw [List.getElem?_eq_none h1] at hb0; cases hb0
      obtain ⟨p, hp⟩ := wex b0 hlt
      have hr : i.ro ≤ b0 := smMay.1 hm0
      have hh : i.heap[b0]? = some (some o0) := by
        unfold hget at hb0
        split at hb0
        · rename_i h5; rw [h5, hb0]
        · cases hb0
      obtain ⟨O, hO, _⟩ := hfit.ob b0 p o0 hp hh
      have e : (ρ (i.nu s.next b0)).blk = (ρ b).blk := e
      rw [(nu_lo b0 p hp).1] at e
      have := hs.injM hb hO (mroB (w1 b0 p hp (by omega)).1) e.symm q
      refine hn b0 (by omega) hr ?_
      rw [(nu_lo b0 p hp).1]; exact this
    have keptFar : ∀ (b : Nat) (o : Ob) (B : Nat), s.heap.get b = some o → o.far B → w'.heap[B]? = w.heap[B]? := fun b o B hb hB => by
      obtain ⟨_, hob⟩ := hs.ob b o hb
      refine g3.frame _ (hob.farLt hB) fun b0 o0 hb0 hm0 e => ?_
      rw [get0] at hb0
      have hlt : b0 < i.win.length := by
        unfold hget at hb0
        rcases Nat.lt_or_ge b0 i.heap.length with h1 | h1
        · omega
        · rw [List.getElem?_eq_none h1] at hb0; cases hb0
      obtain ⟨p, hp⟩ := wex b0 hlt
      have hr : i.ro ≤ b0 := smMay.1 hm0
      have hh : i.heap[b0]? = some (some o0) := by
        unfold hget at hb0
        split at hb0
        · rename_i h5; rw [h5, hb0]
        · cases hb0
      obtain ⟨O, hO, _⟩ := hfit.ob b0 p o0 hp hh
      have e : (ρ (i.nu s.next b0)).blk = B := e
      rw [(nu_lo b0 p hp).1] at e
      exact hs.far b p.1 o O B hb hB hO (mroB (w1 b0 p hp (by omega)).1) e
    have old_lt : ∀ (b : Nat) (o : Ob), s.heap.get b = some o → b < s.next := fun b o hb => (hs.ob b o hb).1.1
    have noFam : ∀ (j : Nat) (o1 : Ob) (B : Nat), i.ro ≤ j → i.s1.heap.get j = some o1 → (mvOb (i.nu s.next) i.del o1).far B → False := fun j o1 B hj h4 hB => by
      obtain ⟨F, g, P0, x, v, hF, _⟩ := hB
      cases o1 with
      | cells c t => cases c <;> cases hF
      | fam F1 => exact (g2.ob j _ h4).2.1 (by simpa [Inst.s1, smSt] using hj)
      | _ => cases hF
    refine ⟨v', ρ2, rfl, mv_from pl2 z2 dm2 _ _ c7 g1, ⟨⟨fun b o hb => ?_, fun b b' o o' hb hb' hk e => ?_, fun b b' o o' B hb hB hb' hk => ?_⟩, fun b hb => hs.hid b (by have hb : s.next + _ ≤ b := hb; omega), ⟨by show s.roB ≤ s.next + _; have := hs.wf.1; omega, fun x hx => by show x < s.next + _; have := hs.wf.2 x hx; omega⟩⟩, ?_⟩
    · rcases cases' b o hb with ⟨j, o1, h1, h2, h3, h4, rfl, h6⟩ | ⟨h1, h2⟩
      · obtain ⟨k1, k2⟩ := g2.ob j o1 h4
        rw [h3]
        refine ⟨dm2 j h2 k1, ?_⟩
        obtain ⟨p1, p2, p3⟩ := pl2 j h2
        have hoff : (ρ2 (i.nu s.next j)).off = (ρ' j).off := by
          rw [p2]
          rcases Nat.lt_or_ge j i.win.length with h | h
          · obtain ⟨p, hp⟩ := wex j h
            rw [(nu_lo j p hp).2, (w1 j p hp (by omega)).2]; rfl
          · rw [(nu_hi j h).2]; rfl
        cases o1 with
        | cells c t =>
          cases c with
          | lit l =>
            obtain ⟨pc, ty, fr, q1, q2, q3, q4⟩ := k2
            refine ⟨pc, ty, fr, by rw [← p1]; exact q1, by rw [← p3]; exact q2, fun _ => q3 (by simpa [Inst.s1, smSt] using h1), fun x vv hv => ?_⟩
            simp only [Cells.get, List.getElem?_map, Option.map_eq_some_iff] at hv
            obtain ⟨v0, hv0, rfl⟩ := hv
            obtain ⟨x', y1, y2⟩ := q4 x v0 hv0
            refine ⟨x', by rw [hoff]; exact y1, mv_from pl2 z2 dm2 _ _ (List.all_eq_true.1 h6 v0 (List.mem_of_getElem? hv0)) y2⟩
          | ints k l =>
            obtain ⟨pc, ty, fr, q1, q2, q3, q4⟩ := k2
            refine ⟨pc, ty, fr, by rw [← p1]; exact q1, by rw [← p3]; exact q2, fun _ => q3 (by simpa [Inst.s1, smSt] using h1), fun x vv hv => ?_⟩
            obtain ⟨x', y1, y2⟩ := q4 x vv hv
            refine ⟨x', by rw [hoff]; exact y1, ?_⟩
            simp only [Cells.get, Option.map_eq_some_iff] at hv
            obtain ⟨n0, _, rfl⟩ := hv
            rw [y2.eq_flat0 rfl]; exact .same rfl
          | fam n f => simp [okOb] at h6
          | rows n w g => simp [okOb] at h6
        | loop l => simp [okOb] at h6
        | marks => simp [okOb] at h6
        | map es c => simp [okOb] at h6
        | fam F => exact absurd h1 (by simpa [Inst.s1, smSt] using k2.1)
      · obtain ⟨k1, k2⟩ := hs.ob b o h2
        rw [rhoLo b k1.1]
        exact ⟨up b k1, (k2.congr id (kept b o h2 h1) g3.size fun B hB => keptFar b o B h2 hB).mono up fun x hx => rhoLo x hx.1⟩
    · rcases cases' b o hb with ⟨j, o1, h1, h2, h3, h4, h5, h6⟩ | ⟨h1, h2⟩
      · rcases cases' b' o' hb' with ⟨j', o1', h1', h2', h3', h4', h5', h6'⟩ | ⟨h1', h2'⟩
        · rw [h3, h3'] at e ⊢
          rw [← (pl2 j h2).1, ← (pl2 j' h2').1] at e
          rcases g2.inj j j' o1 o1' h4 h4' (.inl h1) e with e | e | e
          · exact .inl (by rw [e])
          · rw [(g2.ob j o1 h4).2.hard (by simpa [Inst.s1, smSt] using h1)] at e; cases e
          · rw [(g2.ob j' o1' h4').2.hard (by simpa [Inst.s1, smSt] using h1')] at e; cases e
        · rcases Bool.eq_false_or_eq_true o'.soft with q | q
          · exact .inr (.inr q)
          exfalso
          rw [h3, ← (pl2 j h2).1, rhoLo b' (old_lt _ _ h2')] at e
          rcases blk_of j o1 h1 h4 with h | ⟨p, O, j0, q1, q2, q3, q4, q5⟩
          · have := (hs.ob b' o' h2').2.lt q; omega
          · have := hs.injM h2' q4 (mroB q3) (q5.trans e).symm q
            refine h1' j0 ?_ q2 (by rw [(nu_lo j0 p q1).1]; exact this)
            rcases Nat.lt_or_ge j0 i.win.length with h | h
            · omega
            · rw [List.getElem?_eq_none h] at q1; cases q1
      · rcases cases' b' o' hb' with ⟨j, o1, h3, h4, h5, h6, h7, h8⟩ | ⟨h1', h2'⟩
        · rcases Bool.eq_false_or_eq_true o.soft with q | q
          · exact .inr (.inl q)
          exfalso
          rw [h5, ← (pl2 j h4).1, rhoLo b (old_lt _ _ h2)] at e
          rcases blk_of j o1 h3 h6 with h | ⟨p, O, j0, q1, q2, q3, q4, q5⟩
          · have := (hs.ob b o h2).2.lt q; omega
          · have := hs.injM h2 q4 (mroB q3) (q5.trans e.symm).symm q
            refine h1 j0 ?_ q2 (by rw [(nu_lo j0 p q1).1]; exact this)
            rcases Nat.lt_or_ge j0 i.win.length with h | h
            · omega
            · rw [List.getElem?_eq_none h] at q1; cases q1
        · rw [rhoLo b (old_lt _ _ h2), rhoLo b' (old_lt _ _ h2')] at e
          exact hs.inj b b' o o' h2 h2' hk e
    · rcases cases' b o hb with ⟨j, o1, h1, h2, h3, h4, h5, h6⟩ | ⟨h1, h2⟩
      · rw [h5] at hB; exact (noFam j o1 B h1 h4 hB).elim
      · rcases cases' b' o' hb' with ⟨j', o1', h1', h2', h3', h4', h5', h6'⟩ | ⟨h1', h2'⟩
        · rw [h3', ← (pl2 j' h2').1]
          intro e
          rcases blk_of j' o1' h1' h4' with h | ⟨p, O, j0, q1, q2, q3, q4, q5⟩
          · have := (hs.ob b o h2).2.farLt hB; omega
          · exact hs.far b p.1 o O B h2 hB q4 (mroB q3) (q5.trans e)
        · rw [rhoLo b' (old_lt _ _ h2')]
          exact hs.far b b' o o' B h2 hB h2' hk
    · refine ⟨by show s.next ≤ s.next + _; omega, fun b hb => rhoLo b hb, g3.os, g3.tape, g3.output, g3.size, fun k hk hn => g3.frame k hk fun b0 o0 hb0 hm0 e => ?_, fun b o hb hm => ?_, rfl, rfl, rfl, fun b hb => ?_⟩
      · rw [get0] at hb0
        have hlt : b0 < i.win.length := by
          unfold hget at hb0
          rcases Nat.lt_or_ge b0 i.heap.length with h1 | h1
          · omega
          · rw [List.getElem?_eq_none h1] at hb0; cases hb0
        obtain ⟨p, hp⟩ := wex b0 hlt
        have hr : i.ro ≤ b0 := smMay.1 hm0
        have hh : i.heap[b0]? = some (some o0) := by
          unfold hget at hb0
          split at hb0
          · rename_i h5; rw [h5, hb0]
          · cases hb0
        obtain ⟨O, hO, _⟩ := hfit.ob b0 p o0 hp hh
        refine hn p.1 O hO (w1 b0 p hp (by omega)).1 ?_
        have e : (ρ (i.nu s.next b0)).blk = k := e
        rw [(nu_lo b0 p hp).1] at e; exact e
      · rcases cases' b o hb with ⟨j, o1, h1, h2, h3, h4, h5, h6⟩ | ⟨h1, h2⟩
        · rw [h3, ← (pl2 j h2).1]
          rcases blk_of j o1 h1 h4 with h | ⟨p, O, j0, q1, q2, q3, q4, q5⟩
          · exact .inl h
          · exact .inr ⟨p.1, O, q4, q3, q5⟩
        · refine .inr ⟨b, o, h2, hm, ?_⟩
          rw [rhoLo b (old_lt _ _ h2)]
      · refine (lay b).2 fun k hk hr e => ?_
        rw [Nat.zero_add] at e
        rw [e, may_nu k (by omega)] at hb; cases hb
  · cases happ
noncomputable def Given.frames (K : Given) (F : FuncId → List Value → St → Option Inst) : Given := { K with call := fun f args s => match F f args s with
  | some i => i.app s
  | none => K.call f args s }
theorem app_obl {i : Inst} {s s' : St} {v : Value} (h : i.app s = some (v, s')) : s'.obl → s.obl ∧ i.ask := by
  unfold Inst.app at h
  split at h
  · rw [bind_some] at h
    obtain ⟨h', _, h⟩ := h
    simp only [Option.some.injEq, Prod.mk.injEq] at h
    obtain ⟨_, rfl⟩ := h; exact id
  · cases h
theorem GivenOk.frames {P : Program} {K : Given} (hK : GivenOk P K) {F : FuncId → List Value → St → Option Inst}
    (h : ∀ f args s i, F f args s = some i → Fits s i args ∧ (i.ask → CallOk P f i.args i.s0 i.val i.s1)) : GivenOk P (Given.frames K F) := by
  refine ⟨fun {f args s s' v} hc => ?_, fun {f args s s' v} hc => ?_, hK.loopObl, hK.loop⟩
  · simp only [Given.frames] at hc
    split at hc
    · exact fun k => (app_obl hc k).1
    · exact hK.callObl hc
  · simp only [Given.frames] at hc
    split at hc
    · rename_i i hF
      obtain ⟨h1, h2⟩ := h _ _ _ _ hF
      intro ho
      exact frame_sound (h2 (app_obl hc ho).2) h1 hc ho
    · exact hK.call hc
end Go.Cln
