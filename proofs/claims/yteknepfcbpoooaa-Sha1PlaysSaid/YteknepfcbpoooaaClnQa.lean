/- Read off the code by the clean reading. -/
import Derived.Test.YteknepfcbpoooaaClnP27
import Derived.LoopNIn
set_option linter.unusedVariables false
set_option linter.unusedSimpArgs false
set_option linter.deprecated false
set_option maxRecDepth 100000
namespace Go.Cln
def junk : Value := .chan (some 0)
def isJ : Value → Bool
  | .chan (some 0) => true
  | _ => false
def maskJ : List Value → List Value → List Value
  | v1 :: l1, v2 :: l2 => (if isJ v2 && v1.oneCell' then junk else v1) :: maskJ l1 l2
  | l1, _ => l1
theorem maskJ_vl {N : Nat → Prop} {ρ : Nat → PB} : ∀ {l1 l2 l' : List Value}, VL N ρ l1 l' → VL N ρ (maskJ l1 l2) l'
  | [], l2, l', h => by cases l2 <;> exact h
  | v :: l, [], l', h => h
  | v :: l, v2 :: l2, l', h => by
    obtain ⟨w, r, rfl, h1, h2⟩ := h.inv_cons
    refine VL.cons ?_ (maskJ_vl h2)
    split
    · rename_i hc
      rw [Bool.and_eq_true] at hc
      exact .any (by rw [h1.one]; exact hc.2)
    · exact h1
def mask1 (v v2 : Value) : Value := if isJ v2 && v.oneCell' then junk else v
def mask1L : List Value → List Value → List Value
  | v1 :: l1, v2 :: l2 => mask1 v1 v2 :: mask1L l1 l2
  | l1, _ => l1
def mask2 (v v2 : Value) : Value := match v, v2 with
  | .agg x, .agg y => .agg (mask1L x.toList y.toList).toArray
  | v, v2 => mask1 v v2
def mask2L : List Value → List Value → List Value
  | v1 :: l1, v2 :: l2 => mask2 v1 v2 :: mask2L l1 l2
  | l1, _ => l1
def mask3 (v v2 : Value) : Value := match v, v2 with
  | .tuple x, .tuple y => .tuple (mask2L x.toList y.toList).toArray
  | v, v2 => mask2 v v2
def maskD : List Value → List Value → List Value
  | v1 :: l1, v2 :: l2 => mask3 v1 v2 :: maskD l1 l2
  | l1, _ => l1
theorem mask1_vr {N : Nat → Prop} {ρ : Nat → PB} {v v2 w : Value} (h : VR N ρ v w) : VR N ρ (mask1 v v2) w := by
  unfold mask1
  split
  · rename_i hc
    rw [Bool.and_eq_true] at hc
    exact .any (by rw [h.one]; exact hc.2)
  · exact h
theorem mask1L_vl {N : Nat → Prop} {ρ : Nat → PB} : ∀ {l1 l2 l' : List Value}, VL N ρ l1 l' → VL N ρ (mask1L l1 l2) l'
  | [], l2, l', h => by cases l2 <;> exact h
  | v :: l, [], l', h => h
  | v :: l, v2 :: l2, l', h => by
    obtain ⟨w, r, rfl, h1, h2⟩ := h.inv_cons
    exact VL.cons (mask1_vr h1) (mask1L_vl h2)
theorem mask2_vr {N : Nat → Prop} {ρ : Nat → PB} {v v2 w : Value} (h : VR N ρ v w) : VR N ρ (mask2 v v2) w := by
  unfold mask2
  split
  · rename_i x y
    cases h with
    | same hf => simp [flat0] at hf
    | agg h1 h2 =>
      have := mask1L_vl (l2 := y.toList) ⟨h1, h2⟩
      exact .agg this.1 this.2
  · exact mask1_vr h
theorem mask2L_vl {N : Nat → Prop} {ρ : Nat → PB} : ∀ {l1 l2 l' : List Value}, VL N ρ l1 l' → VL N ρ (mask2L l1 l2) l'
  | [], l2, l', h => by cases l2 <;> exact h
  | v :: l, [], l', h => h
  | v :: l, v2 :: l2, l', h => by
    obtain ⟨w, r, rfl, h1, h2⟩ := h.inv_cons
    exact VL.cons (mask2_vr h1) (mask2L_vl h2)
theorem mask3_vr {N : Nat → Prop} {ρ : Nat → PB} {v v2 w : Value} (h : VR N ρ v w) : VR N ρ (mask3 v v2) w := by
  unfold mask3
  split
  · rename_i x y
    cases h with
    | same hf => simp [flat0] at hf
    | tup h1 h2 =>
      have := mask2L_vl (l2 := y.toList) ⟨h1, h2⟩
      exact .tup this.1 this.2
  · exact mask2_vr h
theorem maskD_vl {N : Nat → Prop} {ρ : Nat → PB} : ∀ {l1 l2 l' : List Value}, VL N ρ l1 l' → VL N ρ (maskD l1 l2) l'
  | [], l2, l', h => by cases l2 <;> exact h
  | v :: l, [], l', h => h
  | v :: l, v2 :: l2, l', h => by
    obtain ⟨w, r, rfl, h1, h2⟩ := h.inv_cons
    exact VL.cons (mask3_vr h1) (maskD_vl h2)
def renL (σ : Nat → Nat) : Value → Value
  | .pointer (some a) => .pointer (some (if isAbs a.spot then a else { a with block := σ a.block }))
  | .slice (some a) n c => .slice (some (if isAbs a.spot then a else { a with block := σ a.block })) n c
  | .map (some b) => .map (some (σ b))
  | .func (.yield l) x y => .func (.yield (σ l)) x y
  | v => v
def renA (r : Value → Value) (σ : Nat → Nat) : Value → Value
  | .agg x => .agg (x.toList.map r).toArray
  | .tuple x => .tuple (x.toList.map r).toArray
  | .func (.func f) x y => .func (.func f) (x.toList.map r).toArray (y.toList.map r).toArray
  | v => renL σ v
def ren (σ : Nat → Nat) : Value → Value := renA (renA (renL σ) σ) σ
def okB (s : St) (b : Nat) : Bool := decide (b < s.next) && !s.hid b
def okL (s : St) : Value → Bool
  | .pointer (some a) => okB s (if isAbs a.spot then 0 else a.block)
  | .slice (some a) _ _ => okB s (if isAbs a.spot then 0 else a.block)
  | .map (some b) => okB s b
  | .func (.yield l) _ _ => okB s l
  | .chan (some 0) => true
  | v => flat0 v
def okA (o : Value → Bool) (s : St) : Value → Bool
  | .agg x => x.toList.all o
  | .tuple x => x.toList.all o
  | .func (.func _) x y => x.toList.all o && y.toList.all o
  | v => okL s v
def okV (s : St) : Value → Bool := okA (okA (okL s) s) s
theorem okB_dm {s : St} {b : Nat} (h : okB s b = true) : Dm s b := by
  unfold okB at h; rw [Bool.and_eq_true] at h
  exact ⟨of_decide_eq_true h.1, by simpa using h.2⟩
section
variable {N1 : Nat → Prop} {s2 : St} {ρ1 ρ2 : Nat → PB} {σ : Nat → Nat}
theorem renL_sound (hρ : ∀ b, ρ2 b = ρ1 (σ b)) : ∀ (v w : Value), okL s2 v = true → VR N1 ρ1 (renL σ v) w → VR (Dm s2) ρ2 v w := by
  intro v w ho h
  have plain : flat0 v = true → renL σ v = v → VR (Dm s2) ρ2 v w := fun hf e => by
    rw [e] at h; rw [h.eq_flat0 hf]; exact .same hf
  cases v with
  | pointer a =>
    cases a with
    | none => exact plain rfl rfl
    | some a =>
      obtain ⟨b, o, sp⟩ := a
      simp only [renL] at h
      simp only [okL] at ho
      by_cases hg : isAbs sp = true
      · rw [if_pos hg] at h ho
        cases h with
        | same hf => simp [flat0] at hf
        | ptr hN => cases hg
        | absP _ hg => exact .absP (okB_dm ho) hg
      rw [if_neg hg] at h ho
      cases h with
      | same hf => simp [flat0] at hf
      | ptr hN => rw [← hρ]; exact .ptr (okB_dm ho)
      | absP _ hg' => exact absurd hg' hg
  | slice a n c =>
    cases a with
    | none => exact plain rfl rfl
    | some a =>
      obtain ⟨b, o, sp⟩ := a
      simp only [renL] at h
      simp only [okL] at ho
      by_cases hg : isAbs sp = true
      · rw [if_pos hg] at h ho
        cases h with
        | same hf => simp [flat0] at hf
        | slice hN hn hs => rw [hs.noAbs] at hg; cases hg
        | abs _ hg hk => exact .abs (okB_dm ho) hg hk
      rw [if_neg hg] at h ho
      cases h with
      | same hf => simp [flat0] at hf
      | slice hN hn hs => exact .slice (okB_dm ho) hn (by rw [hρ]; exact hs)
      | abs _ hg' _ => exact absurd hg' hg
  | map b =>
    cases b with
    | none => exact plain rfl rfl
    | some b =>
      simp only [renL] at h
      cases h with
      | same hf => simp [flat0] at hf
      | mapv hN => rw [← hρ]; exact .mapv (okB_dm ho)
  | func f x y =>
    cases f with
    | yield l =>
      simp only [renL] at h
      cases h with
      | same hf => simp [flat0] at hf
      | yield hN => rw [← hρ]; exact .yield (okB_dm ho)
    | _ => exact plain ho rfl
  | chan r =>
    cases r with
    | none => exact plain ho rfl
    | some k =>
      cases k with
      | zero =>
        simp only [renL] at h
        cases h with
        | same hf => simp [flat0] at hf
        | any hw => exact .any hw
      | succ k => exact plain ho rfl
  | _ => exact plain ho rfl
theorem renA_sound (hρ : ∀ b, ρ2 b = ρ1 (σ b)) {r : Value → Value} {o : Value → Bool} (hr : ∀ (v w : Value), o v = true → VR N1 ρ1 (r v) w → VR (Dm s2) ρ2 v w) :
    ∀ (v w : Value), okA o s2 v = true → VR N1 ρ1 (renA r σ v) w → VR (Dm s2) ρ2 v w := by
  have rows : ∀ (x : Array Value) (x' : Array Value), x.toList.all o = true → (x.toList.map r).toArray.toList.length = x'.toList.length → (∀ (i : Nat) (v w : Value), (x.toList.map r).toArray.toList[i]? = some v → x'.toList[i]? = some w → VR N1 ρ1 v w) →
      x.toList.length = x'.toList.length ∧ ∀ (i : Nat) (v w : Value), x.toList[i]? = some v → x'.toList[i]? = some w → VR (Dm s2) ρ2 v w := fun x x' ha h1 h2 => by
    refine ⟨by simpa using h1, fun i v w hv hw => ?_⟩
    refine hr v w (List.all_eq_true.1 ha v (List.mem_of_getElem? hv)) (h2 i _ w ?_ hw)
    show (x.toList.map r)[i]? = some (r v)
    rw [List.getElem?_map, hv]; rfl
  intro v w ho h
  cases v with
  | agg x =>
    simp only [renA] at h
    cases h with
    | same hf => simp [flat0] at hf
    | agg h1 h2 => obtain ⟨a, b⟩ := rows x _ ho h1 h2; exact .agg a b
  | tuple x =>
    simp only [renA] at h
    cases h with
    | same hf => simp [flat0] at hf
    | tup h1 h2 => obtain ⟨a, b⟩ := rows x _ ho h1 h2; exact .tup a b
  | func f x y =>
    cases f with
    | func f =>
      simp only [renA] at h
      simp only [okA, Bool.and_eq_true] at ho
      cases h with
      | same hf =>
        simp only [flat0, Bool.and_eq_true, List.isEmpty_iff, List.map_eq_nil_iff] at hf
        obtain ⟨hx, hy⟩ := hf
        obtain ⟨x⟩ := x; obtain ⟨y⟩ := y
        simp only at hx hy
        subst hx; subst hy
        exact .same rfl
      | fn h1 h2 h3 h4 => obtain ⟨a, b⟩ := rows x _ ho.1 h1 h2; obtain ⟨c, d⟩ := rows y _ ho.2 h3 h4; exact .fn a b c d
    | _ => exact renL_sound hρ _ _ ho h
  | _ => exact renL_sound hρ _ _ ho h
theorem ren_sound (hρ : ∀ b, ρ2 b = ρ1 (σ b)) (v w : Value) (ho : okV s2 v = true) (h : VR N1 ρ1 (ren σ v) w) : VR (Dm s2) ρ2 v w :=
  renA_sound hρ (renA_sound hρ (renL_sound hρ)) v w ho h
theorem renAll_sound (hρ : ∀ b, ρ2 b = ρ1 (σ b)) {l l' : List Value} (ho : l.all (okV s2) = true) (h : VL N1 ρ1 (l.map (ren σ)) l') : VL (Dm s2) ρ2 l l' :=
  ⟨by simpa using h.1, fun i v w hv hw => ren_sound hρ v w (List.all_eq_true.1 ho v (List.mem_of_getElem? hv)) (h.2 i _ w (by rw [List.getElem?_map, hv]; rfl) hw)⟩
end
inductive ObV (s2 : St) (σ : Nat → Nat) : Ob → Ob → Prop
  | cells {c1 c : Cells} {t1 t : TypeId} : (∀ (i : Nat) (v : Value), c.get i = some v → ∃ v1, c1.get i = some v1 ∧ (v1 = ren σ v ∨ (v = junk ∧ v1.oneCell' = true)) ∧ okV s2 v = true) → ObV s2 σ (.cells c1 t1) (.cells c t)
  | loop {l1 l : CLoop} : l1.state = l.state → l1.pending = l.pending → maskJ l1.tmps l.tmps = l.tmps.map (ren σ) → l.tmps.all (okV s2) = true → l1.params = l.params → l1.assign = l.assign → l1.body = l.body → l1.defers = σ l.defers → okB s2 l.defers = true → ObV s2 σ (.loop l1) (.loop l)
  | marks : ObV s2 σ .marks .marks
  | fam {F : Nat → Nat → Cells} : okB s2 0 = true → ObV s2 σ (.fam F) (.fam F)
  | map {es1 es : List MapEntry} {k : Nat} : es1 = es.map (fun e => { e with val := ren σ e.val }) → es.all (fun e => okV s2 e.val) = true → ObV s2 σ (.map es1 k) (.map es k)
theorem maskJ_get : ∀ {l1 l2 : List Value} {i : Nat} {v : Value}, (maskJ l1 l2)[i]? = some v → ∃ v1, l1[i]? = some v1 ∧ (v1 = v ∨ (v = junk ∧ v1.oneCell' = true))
  | [], l2, i, v, h => by cases l2 <;> simp [maskJ] at h
  | a :: l, [], i, v, h => ⟨v, h, .inl rfl⟩
  | a :: l, b :: r, 0, v, h => by
    simp only [maskJ, List.getElem?_cons_zero, Option.some.injEq] at h
    refine ⟨a, rfl, ?_⟩
    split at h
    · rename_i hc; rw [Bool.and_eq_true] at hc; exact .inr ⟨h.symm, hc.2⟩
    · exact .inl h
  | a :: l, b :: r, i + 1, v, h => by
    simp only [maskJ, List.getElem?_cons_succ] at h
    simpa using maskJ_get h
theorem ren_junk {σ : Nat → Nat} {v : Value} (h : ren σ v = junk) : v = junk := by
  unfold ren at h
  cases v with
  | chan r => exact h
  | pointer a => cases a <;> cases h
  | slice a n c => cases a <;> cases h
  | map a => cases a <;> cases h
  | func f x y => cases f <;> cases h
  | _ => cases h
theorem ObV.lit {s2 : St} {σ : Nat → Nat} {l1 l : List Value} {t1 t : TypeId} (h : maskJ l1 l = l.map (ren σ)) (ho : l.all (okV s2) = true) : ObV s2 σ (.cells (.lit l1) t1) (.cells (.lit l) t) :=
  .cells fun i v hv => by
    simp only [Cells.get] at hv ⊢
    have h1 : (maskJ l1 l)[i]? = some (ren σ v) := by rw [h, List.getElem?_map, hv]; rfl
    obtain ⟨v1, g1, g2⟩ := maskJ_get h1
    refine ⟨v1, g1, ?_, List.all_eq_true.1 ho v (List.mem_of_getElem? hv)⟩
    rcases g2 with g2 | ⟨g2, g3⟩
    · exact .inl g2
    · exact .inr ⟨ren_junk g2, g3⟩
theorem ren_flat0 (σ : Nat → Nat) {v : Value} (h : flat0 v = true) : ren σ v = v := by
  cases v with
  | pointer a => cases a <;> first | rfl | (simp [flat0] at h)
  | slice a n c => cases a <;> first | rfl | (simp [flat0] at h)
  | map a => cases a <;> first | rfl | (simp [flat0] at h)
  | func f x y =>
    cases f with
    | func f =>
      simp only [flat0, Bool.and_eq_true, List.isEmpty_iff] at h
      obtain ⟨x⟩ := x; obtain ⟨y⟩ := y
      simp only at h
      obtain ⟨rfl, rfl⟩ := h; rfl
    | _ => simp [flat0] at h
  | agg => simp [flat0] at h
  | tuple => simp [flat0] at h
  | _ => rfl
theorem okV_flat0 (s : St) {v : Value} (h : flat0 v = true) : okV s v = true := by
  cases v with
  | pointer a => cases a <;> first | rfl | (simp [flat0] at h)
  | slice a n c => cases a <;> first | rfl | (simp [flat0] at h)
  | map a => cases a <;> first | rfl | (simp [flat0] at h)
  | func f x y =>
    cases f with
    | func f =>
      simp only [flat0, Bool.and_eq_true, List.isEmpty_iff] at h
      obtain ⟨x⟩ := x; obtain ⟨y⟩ := y
      simp only at h
      obtain ⟨rfl, rfl⟩ := h; rfl
    | _ => simp [flat0] at h
  | agg => simp [flat0] at h
  | chan r =>
    cases r with
    | none => rfl
    | some k => simp [flat0] at h
  | tuple => simp [flat0] at h
  | _ => exact h
theorem ObV.ints {s2 : St} {σ : Nat → Nat} {c1 c : Cells} {t1 t : TypeId} (h : ∀ (i : Nat) (v : Value), c.get i = some v → c1.get i = some v ∧ flat0 v = true) : ObV s2 σ (.cells c1 t1) (.cells c t) :=
  .cells fun i v hv => ⟨v, (h i v hv).1, .inl (ren_flat0 σ (h i v hv).2).symm, okV_flat0 s2 (h i v hv).2⟩
structure View (s0 s1 s2 : St) (σ : Nat → Nat) : Prop where
  next : s0.next ≤ s2.next
  idn : ∀ b, b < s0.next → σ b = b
  fresh : ∀ b, s0.next ≤ b → s0.next ≤ σ b
  roB : s2.roB = s1.roB
  ro : s2.ro = s1.ro
  hid : s2.hid = s1.hid
  tmps : maskD s1.tmps s2.tmps = s2.tmps.map (ren σ)
  okT : s2.tmps.all (okV s2) = true
  defers : s1.defers = s2.defers.map σ
  okD : ∀ d ∈ s2.defers, d < s2.next
  heap : ∀ (b : Nat) (o : Ob), s2.heap.get b = some o → okB s2 b = true ∧ ∃ o1, s1.heap.get (σ b) = some o1 ∧ ObV s2 σ o1 o
  inj : ∀ (b b' : Nat) (o o' : Ob), s2.heap.get b = some o → s2.heap.get b' = some o' → σ b = σ b' → b = b'
  same : ∀ b, b < s0.next → s0.may b = false → s2.heap.get b = s1.heap.get b
theorem may_lt {s : St} {ρ : Nat → PB} {w : World} (hs : Hs s ρ w) {b : Nat} (h : s.may b = false) : b < s.next := by
  rcases Nat.lt_or_ge b s.next with h1 | h1
  · exact h1
  · rw [hs.may_next h1] at h; cases h
def Pic (s0 : St) (ρ0 : Nat → PB) (w0 : World) (s : St) (w : World) (a : Act) : Prop := ∃ ρ, Rel s ρ w a ∧ Tra s0 s ρ0 ρ w0 w
theorem Pic.view {s0 s1 s2 : St} {ρ0 : Nat → PB} {w0 w : World} {a : Act} {σ : Nat → Nat} (hs0 : Hs s0 ρ0 w0) (v : View s0 s1 s2 σ) (h : Pic s0 ρ0 w0 s1 w a) : Pic s0 ρ0 w0 s2 w a := by
  obtain ⟨ρ1, r, t⟩ := h
  have hρ : ∀ b, (fun b => ρ1 (σ b)) b = ρ1 (σ b) := fun _ => rfl
  have hro : s0.roB ≤ s0.next := hs0.wf.1
  have hmay : ∀ b, s2.may b = s0.may b := fun b => by rw [may_of v.roB v.ro, may_of t.roB t.ro]
  have hmay1 : ∀ b, s1.may b = s0.may b := fun b => may_of t.roB t.ro b
  refine ⟨fun b => ρ1 (σ b), ⟨⟨⟨fun b o hb => ?_, fun b b' o o' hb hb' hk e => ?_, fun b b' o o' B hb hB hb' hk => ?_⟩, fun b hb => ?_, ?_⟩, ?_, ?_, v.okD⟩, ?_⟩
  · obtain ⟨hd, o1, h1, ho⟩ := v.heap b o hb
    obtain ⟨_, k⟩ := r.hs.ob _ _ h1
    refine ⟨okB_dm hd, ?_⟩
    have hr : s2.roB ≤ b → s1.roB ≤ σ b := fun hb => by
      rw [v.roB] at hb
      rcases Nat.lt_or_ge b s0.next with hlt | hge
      · rw [v.idn b hlt]; exact hb
      · have := v.fresh b hge; rw [t.roB]; omega
    cases ho with
    | cells hc =>
      obtain ⟨pc, ty, fr, k1, k2, k3, k4⟩ := k
      refine ⟨pc, ty, fr, k1, k2, fun m => k3 (hr m), fun i x hx => ?_⟩
      obtain ⟨v1, y1, y2, y3⟩ := hc i x hx
      obtain ⟨z, z1, z2⟩ := k4 i _ y1
      refine ⟨z, z1, ?_⟩
      rcases y2 with rfl | ⟨rfl, y2⟩
      · exact ren_sound hρ x z y3 z2
      · exact .any (by rw [z2.one]; exact y2)
    | loop e1 e2 e3 e4 e5 e6 e7 e8 e9 =>
      rename_i lo1 lo
      obtain ⟨l', k1, k2⟩ := k
      refine ⟨l', k1, ⟨k2.state.trans e1, k2.pending.trans e2, ?_, k2.params.trans e5, k2.assign.trans e6, k2.body.trans e7, okB_dm e9, ?_⟩⟩
      · have := maskJ_vl (l2 := lo.tmps) k2.tmps; rw [e3] at this; exact renAll_sound hρ e4 this
      · rw [k2.defers, e8]
    | marks => exact k
    | fam hz =>
      obtain ⟨k1, k2, k3⟩ := k
      refine ⟨fun hb => k1 (hr hb), k2, fun g P i x hx => ?_⟩
      obtain ⟨pc, ty, fr, x', q1, q2, q3, q4⟩ := k3 g P i x hx
      exact ⟨pc, ty, fr, x', q1, q2, famV_vr q3 q4 (okB_dm hz), q4⟩
    | map e1 e2 =>
      rename_i es1 es kk
      obtain ⟨es', k1, k2, k3⟩ := k
      refine ⟨es', k1, by rw [k2, e1]; simp, fun i x y hx hy => ?_⟩
      obtain ⟨y1, y2, y3⟩ := k3 i { x with val := ren σ x.val } y (by rw [e1, List.getElem?_map, hx]; rfl) hy
      exact ⟨y1, y2, ren_sound hρ _ _ (List.all_eq_true.1 e2 x (List.mem_of_getElem? hx)) y3⟩
  · obtain ⟨_, o1, h1, _⟩ := v.heap b o hb
    obtain ⟨_, o2, h2, _⟩ := v.heap b' o' hb'
    have up : ∀ c, s2.roB ≤ c → s1.roB ≤ σ c := fun c hc => by
      rw [v.roB] at hc
      rcases Nat.lt_or_ge c s0.next with hlt | hge
      · rw [v.idn c hlt]; exact hc
      · have := v.fresh c hge; rw [t.roB]; omega
    exact v.inj b b' o o' hb hb' (r.hs.inj _ _ _ _ h1 h2 (hk.imp (up b) (up b')) e)
  · obtain ⟨_, o1, h1, hv⟩ := v.heap b o hb
    obtain ⟨_, o2, h2, _⟩ := v.heap b' o' hb'
    have up : ∀ c, s2.roB ≤ c → s1.roB ≤ σ c := fun c hc => by
      rw [v.roB] at hc
      rcases Nat.lt_or_ge c s0.next with hlt | hge
      · rw [v.idn c hlt]; exact hc
      · have := v.fresh c hge; rw [t.roB]; omega
    refine r.hs.far _ _ o1 o2 B h1 ?_ h2 (up b' hk)
    obtain ⟨F, g, P, i, x, rfl, hx, hB⟩ := hB
    cases hv
    exact ⟨F, g, P, i, x, rfl, hx, hB⟩
  · rw [v.hid, t.hid]; exact hs0.hid b (Nat.le_trans v.next hb)
  · rw [v.roB, v.ro, t.roB, t.ro]
    exact ⟨Nat.le_trans hro v.next, fun b hb => Nat.lt_of_lt_of_le (hs0.wf.2 b hb) v.next⟩
  · have := maskD_vl (l2 := s2.tmps) r.tmps; rw [v.tmps] at this; exact renAll_sound hρ v.okT this
  · rw [r.defers, v.defers]; simp [marksOf]
  · refine ⟨v.next, fun b hb => ?_, t.os, t.tape, t.output, t.size, t.frame, fun b o hb hm => ?_, v.roB.trans t.roB, v.ro.trans t.ro, v.hid.trans t.hid, fun b hb => ?_⟩
    · show ρ1 (σ b) = ρ0 b
      rw [v.idn b hb]; exact t.ext b hb
    · obtain ⟨_, o1, h1, _⟩ := v.heap b o hb
      refine t.own (σ b) o1 h1 ?_
      rw [hmay1]; rw [hmay] at hm
      rcases Nat.lt_or_ge b s0.next with hlt | hge
      · rw [v.idn b hlt]; exact hm
      · exact hs0.may_next (v.fresh b hge)
    · have := may_lt hs0 hb
      rw [v.same b this hb]; exact t.same b hb
def St.bare (s : St) : St := { s with obl := True, orc := [] }
theorem St.bare_like (s : St) : Like s s.bare := ⟨rfl, rfl, rfl, rfl, rfl⟩
theorem Rel.like {s s' : St} {ρ : Nat → PB} {w : World} {a : Act} (h : Rel s ρ w a) (l : Like s s') (ht : s'.tmps = s.tmps) (hd : s'.defers = s.defers) : Rel s' ρ w a :=
  h.after (Tra.refl _ _ _) h.hs l ht hd
def Step (P : Program) (rd : Option Nat) (s0 : St) (c : Code) (s : St) (Q : Exit → St → Prop) : Prop :=
  ∀ (n : Nat) (ρ0 : Nat → PB) (w0 w : World) (a : Act) (R : Exit → Act → World → Prop), (∀ l, rd = some l → l < s0.next) → Hs s0 ρ0 w0 → Pic s0 ρ0 w0 s w a →
    (∀ e s' w' a', Q e s' → Pic s0 ρ0 w0 s' w' a' → R e a' w') → c.wpIn (fenceOf rd ρ0) n P R a w
theorem Step.mono {P : Program} {rd : Option Nat} {s0 : St} {c : Code} {s : St} {Q Q' : Exit → St → Prop} (h : Step P rd s0 c s Q) (hq : ∀ e s', Q e s' → Q' e s') : Step P rd s0 c s Q' :=
  fun n ρ0 w0 w a R h1 h2 h3 h4 => h n ρ0 w0 w a R h1 h2 h3 fun e s' w' a' hQ => h4 e s' w' a' (hq e s' hQ)
theorem Step.view {P : Program} {rd : Option Nat} {s0 : St} {c : Code} {s s2 : St} {Q : Exit → St → Prop} {σ : Nat → Nat} (v : View s0 s s2 σ) (h : Step P rd s0 c s2 Q) : Step P rd s0 c s Q :=
  fun n ρ0 w0 w a R h1 h2 h3 h4 => h n ρ0 w0 w a R h1 h2 (h3.view h2 v) h4
theorem Step.run {P : Program} {rd : Option Nat} {s0 s s1 s2 : St} {c : Code} {e : Exit} {σ : Nat → Nat} (h : CodeOk P rd c s e s1) (ho : s1.obl) (hn : s0.next ≤ s.next) (v : View s0 s1 s2 σ) : Step P rd s0 c s (fun e' s' => e' = e ∧ s' = s2) := by
  intro n ρ0 w0 w a R h1 h2 ⟨ρ, r, t⟩ h4
  have := h ho n ρ w a R (fun l hl => Nat.lt_of_lt_of_le (h1 l hl) hn) r fun ρ' w' a' r' t' => h4 e s2 w' a' ⟨rfl, rfl⟩ (Pic.view h2 v ⟨ρ', r', t.trans t'⟩)
  rwa [fenceOf_ext h1 t.ext] at this
theorem Step.exec {P : Program} (G : PG P) {K : Given} (hK : GivenOk P K) {n : Nat} {f : FuncId} {rd : Option Nat} {s0 s s2 : St} {c : Code} {e : Exit} {p : Prop} {o : List (Option Bool)} {σ : Nat → Nat}
    (hr : ((mk P K n).code f rd c { s with obl := True, orc := o }).map (fun r => (r.1, r.2.obl)) = some (e, p)) (hp : p) (hn : s0.next ≤ s.next)
    (v : View s0 ((((mk P K n).code f rd c { s with obl := True, orc := o }).map (·.2)).getD s) s2 σ) : Step P rd s0 c s (fun e' s' => e' = e ∧ s' = s2) := by
  cases hc : (mk P K n).code f rd c { s with obl := True, orc := o } with
  | none => rw [hc] at hr; simp at hr
  | some r =>
    obtain ⟨e1, s1⟩ := r
    rw [hc] at hr v
    simp only [Option.map_some, Option.some.injEq, Prod.mk.injEq, Option.getD_some] at hr v
    obtain ⟨rfl, hq⟩ := hr
    have l1 : Like s { s with obl := True, orc := o } := ⟨rfl, rfl, rfl, rfl, rfl⟩
    have h := (mk_ok G hK n).okCode hc
    intro m ρ0 w0 w a R h1 h2 ⟨ρ, r, t⟩ h4
    have := h (by rw [hq]; exact hp) m ρ w a R (fun l hl => Nat.lt_of_lt_of_le (h1 l hl) hn) (r.like l1 rfl rfl) fun ρ' w' a' r' t' => h4 _ s2 w' a' ⟨rfl, rfl⟩ (Pic.view h2 v ⟨ρ', r', t.trans (l1.thenTra t')⟩)
    rwa [fenceOf_ext h1 t.ext] at this
theorem Step.loop {P : Program} {rd : Option Nat} {s0 : St} {c : Code} {Q : Exit → St → Prop} (I : Nat → St → Prop)
    (h : ∀ k s, I k s → Step P rd s0 c s (fun e s' => (e = .normal ∧ ∃ k', k' < k ∧ I k' s') ∨ (e ≠ .normal ∧ Q e s'))) : ∀ k s, I k s → Step P rd s0 (.loop c) s Q := by
  intro k s hI n ρ0 w0 w a R h1 h2 h3 h4
  have key : ∀ (m k : Nat) (s : St) (w : World) (a : Act), k < m → I k s → Pic s0 ρ0 w0 s w a → Code.roundsIn (fenceOf rd ρ0) n P c R m a w := by
    intro m
    induction m with
    | zero => intro k s w a hk; omega
    | succ m ih =>
      intro k s w a hk hI hp
      rw [roundsIn_succ]
      refine h k s hI n ρ0 w0 w a _ h1 h2 hp fun e s' w' a' hq hp' => ?_
      rcases hq with ⟨rfl, k', hk', hI'⟩ | ⟨hne, hQ⟩
      · exact ih k' s' w' a' (by omega) hI' hp'
      · have := h4 e s' w' a' hQ hp'
        cases e <;> first | exact this | exact absurd rfl hne
  exact wpIn_loop_rounds (k + 1) (key (k + 1) k s w a (Nat.lt_succ_self k) hI h3)
theorem CodeOk.of_step {P : Program} {rd : Option Nat} {c : Code} {s s1 : St} {e : Exit} (h : Step P rd s c s (fun e' s' => e' = e ∧ s' = s1)) : CodeOk P rd c s e s1 := by
  intro _ n ρ w a Q hrd hr hq
  refine h n ρ w w a Q hrd hr.hs ⟨ρ, hr, Tra.refl _ _ _⟩ ?_
  rintro e' s' w' a' ⟨rfl, rfl⟩ ⟨ρ', r', t'⟩
  exact hq ρ' w' a' r' t'
def Given.asks (K : Given) (L : FuncId → Code → St → Option (Exit × St)) (C : FuncId → List Value → St → Option (Value × St)) : Program → Given := fun P =>
  { call := fun f args s => match C f args s with
      | some (v, s1) => some (v, { s1 with obl := s.obl ∧ CallOk P f args s.bare v s1.bare, orc := s.orc })
      | none => K.call f args s
    loop := fun f c s => match L f c s with
      | some (e, s1) => some (e, { s1 with obl := s.obl ∧ ∀ rd, CodeOk P rd (.loop c) s.bare e s1.bare, orc := s.orc })
      | none => K.loop f c s
    fits := K.fits }
theorem GivenOk.asks {P : Program} {K : Given} (h : GivenOk P K) (L : FuncId → Code → St → Option (Exit × St)) (C : FuncId → List Value → St → Option (Value × St)) : GivenOk P (Given.asks K L C P) := by
  refine ⟨fun {f args s s' v} hc => ?_, fun {f args s s' v} hc => ?_, fun {f c s s' e} hc => ?_, fun {f c s s' e} hc => ?_⟩
  · simp only [Given.asks] at hc
    split at hc
    · simp only [Option.some.injEq, Prod.mk.injEq] at hc; obtain ⟨_, rfl⟩ := hc; exact fun k => k.1
    · exact h.callObl hc
  · simp only [Given.asks] at hc
    split at hc
    · rename_i v1 s1 _
      simp only [Option.some.injEq, Prod.mk.injEq] at hc; obtain ⟨rfl, rfl⟩ := hc
      intro ho n ρ w args' hs ha
      have l1 : Like s1.bare { s1 with obl := s.obl ∧ CallOk P f args s.bare v1 s1.bare, orc := s.orc } := ⟨rfl, rfl, rfl, rfl, rfl⟩
      refine (ho.2 trivial n ρ w args' (s.bare_like.holds hs) (by rw [s.bare_like.dm]; exact ha)).mono ?_
      rintro e w' ⟨v', ρ', rfl, g1, g2, g3⟩
      exact ⟨v', ρ', rfl, by rw [l1.dm]; exact g1, l1.holds g2, (s.bare_like.thenTra g3).like l1⟩
    · exact h.call hc
  · simp only [Given.asks] at hc
    split at hc
    · simp only [Option.some.injEq, Prod.mk.injEq] at hc; obtain ⟨_, rfl⟩ := hc; exact fun k => k.1
    · exact h.loopObl hc
  · simp only [Given.asks] at hc
    split at hc
    · rename_i e1 s1 _
      simp only [Option.some.injEq, Prod.mk.injEq] at hc; obtain ⟨rfl, rfl⟩ := hc
      intro rd ho n ρ w a Q hrd hr hq
      have l1 : Like s1.bare { s1 with obl := s.obl ∧ ∀ rd, CodeOk P rd (.loop c) s.bare e1 s1.bare, orc := s.orc } := ⟨rfl, rfl, rfl, rfl, rfl⟩
      refine ho.2 rd trivial n ρ w a Q hrd (hr.like s.bare_like rfl rfl) fun ρ' w' a' r' t' => ?_
      exact hq ρ' w' a' (r'.like l1 rfl rfl) ((s.bare_like.thenTra t').like l1)
    · exact h.loop hc
end Go.Cln
namespace Go.Cln
def eq0 : Value → Value → Bool
  | .int k n, .int k' m => decide (k = k') && decide (n = m)
  | .bool a, .bool b => a == b
  | .func (.func f) x y, .func (.func g) z u => f == g && (x.toList.isEmpty && y.toList.isEmpty) && (z.toList.isEmpty && u.toList.isEmpty)
  | _, _ => false
def eqRow : List Value → List Value → Bool
  | [], [] => true
  | a :: l, b :: r => eq0 a b && eqRow l r
  | _, _ => false
def eq1 : Value → Value → Bool
  | .agg x, .agg y => eqRow x.toList y.toList
  | a, b => eq0 a b
def eqArgs : List Value → List Value → Bool
  | [], [] => true
  | a :: l, b :: r => eq1 a b && eqArgs l r
  | _, _ => false
theorem eq0_eq {a b : Value} (h : eq0 a b = true) : a = b := by
  unfold eq0 at h
  split at h
  · simp only [Bool.and_eq_true, decide_eq_true_eq] at h; rw [h.1, h.2]
  · rw [eq_of_beq h]
  · rename_i f x y g z u
    simp only [Bool.and_eq_true, List.isEmpty_iff] at h
    obtain ⟨x⟩ := x; obtain ⟨y⟩ := y; obtain ⟨z⟩ := z; obtain ⟨u⟩ := u
    obtain ⟨⟨h1, h2, h3⟩, h4, h5⟩ := h
    simp only at h2 h3 h4 h5
    subst h2; subst h3; subst h4; subst h5
    rw [eq_of_beq h1]
  · cases h
theorem eqRow_eq : ∀ {a b : List Value}, eqRow a b = true → a = b
  | [], [], _ => rfl
  | a :: l, b :: r, h => by
    simp only [eqRow, Bool.and_eq_true] at h
    rw [eq0_eq h.1, eqRow_eq h.2]
  | [], _ :: _, h => by simp [eqRow] at h
  | _ :: _, [], h => by simp [eqRow] at h
theorem eq1_eq {a b : Value} (h : eq1 a b = true) : a = b := by
  unfold eq1 at h
  split at h
  · rename_i x y
    have := eqRow_eq h
    obtain ⟨x⟩ := x; obtain ⟨y⟩ := y
    simp only at this; rw [this]
  · exact eq0_eq h
theorem eqArgs_eq : ∀ {a b : List Value}, eqArgs a b = true → a = b
  | [], [], _ => rfl
  | a :: l, b :: r, h => by
    simp only [eqArgs, Bool.and_eq_true] at h
    rw [eq1_eq h.1, eqArgs_eq h.2]
  | [], _ :: _, h => by simp [eqArgs] at h
  | _ :: _, [], h => by simp [eqArgs] at h
structure Tell (P : Program) where
  fn : FuncId
  args : List Value
  val : Value
  plain : args.all flat = true ∧ flat val = true
  runs : ∀ W : World, Calls P fn args.toArray W fun e w' => e = .returned val ∧ Go.RowKit.Below W.heap.size W w'
def lookT {P : Program} : List (Tell P) → FuncId → List Value → Option Value
  | [], _, _ => none
  | t :: l, f, args => if t.fn == f then (if eqArgs t.args args then some t.val else lookT l f args) else lookT l f args
theorem lookT_ok {P : Program} : ∀ {l : List (Tell P)} {f : FuncId} {args : List Value} {v : Value}, lookT l f args = some v → args.all flat = true ∧ flat v = true ∧ ∀ W : World, Calls P f args.toArray W fun e w' => e = .returned v ∧ Go.RowKit.Below W.heap.size W w'
  | [], f, args, v, h => by simp [lookT] at h
  | t :: l, f, args, v, h => by
    simp only [lookT] at h
    split at h
    · rename_i hf
      split at h
      · rename_i ha
        simp only [Option.some.injEq] at h
        have e := eqArgs_eq ha
        have ef := eq_of_beq hf
        subst ef; subst e; subst h
        exact ⟨t.plain.1, t.plain.2, t.runs⟩
      · exact lookT_ok h
    · exact lookT_ok h
def Given.table {P : Program} (l : List (Tell P)) : Given := Given.calls (lookT l)
theorem GivenOk.table {P : Program} (l : List (Tell P)) : GivenOk P (Given.table l) := GivenOk.calls fun _ _ _ h => lookT_ok h
theorem flat_vl {N : Nat → Prop} {ρ : Nat → PB} : ∀ {l : List Value}, l.all flat = true → VL N ρ l l
  | [], _ => VL.nil
  | v :: l, h => by
    simp only [List.all_cons, Bool.and_eq_true] at h
    exact VL.cons (.of_flat h.1) (flat_vl h.2)
theorem ranF {P : Program} (G : PG P) {K : Given} (hK : GivenOk P K) {n : Nat} {f : FuncId} {args : List Value} {orc : List (Option Bool)} {v : Value} {p : Prop}
    (hr : ((mk P K n).call f args (St.start 0 .leaf orc)).map (fun r => (r.1, r.2.obl)) = some (v, p)) (hp : p) (ha : args.all flat = true) (hv : flat v = true) (W : World) :
    Calls P f args.toArray W fun e w' => e = .returned v ∧ Go.RowKit.Below W.heap.size W w' :=
  ranG G hK (ρ := fun _ => ⟨0, 0, 0⟩) hr hp hv (named_hs 0 orc _ W) (flat_vl ha)
end Go.Cln
namespace Go.Cln
noncomputable section
def Tr.rebuild (f : Nat → Option Ob) : Nat → Tr
  | 0 => .leaf
  | n + 1 => match f n with
    | some o => ((Tr.rebuild f n).put 64 n (some o)).getD .leaf
    | none => Tr.rebuild f n
theorem Tr.put_some : ∀ (k n : Nat) (t : Tr) (o : Option Ob), n + 1 < 2 ^ k → k ≠ 0 → ∃ t', t.put k n o = some t'
  | 0, _, _, _, _, h => absurd rfl h
  | k + 1, n, .leaf, o, hn, _ => by
    simp only [Tr.put]
    split
    · exact ⟨_, rfl⟩
    · rename_i h0
      have hk : k ≠ 0 := by intro e; subst e; simp at hn; omega
      have hp : 2 ^ (k + 1) = 2 ^ k * 2 := Nat.pow_succ ..
      split
      · obtain ⟨t', e⟩ := Tr.put_some k (n / 2) .leaf o (by clear o; omega) hk; rw [e]; exact ⟨_, rfl⟩
      · obtain ⟨t', e⟩ := Tr.put_some k (n / 2 - 1) .leaf o (by clear o; omega) hk; rw [e]; exact ⟨_, rfl⟩
  | k + 1, n, .node l v r, o, hn, _ => by
    simp only [Tr.put]
    split
    · exact ⟨_, rfl⟩
    · rename_i h0
      have hk : k ≠ 0 := by intro e; subst e; simp at hn; omega
      have hp : 2 ^ (k + 1) = 2 ^ k * 2 := Nat.pow_succ ..
      split
      · obtain ⟨t', e⟩ := Tr.put_some k (n / 2) l o (by clear o; omega) hk; rw [e]; exact ⟨_, rfl⟩
      · obtain ⟨t', e⟩ := Tr.put_some k (n / 2 - 1) r o (by clear o; omega) hk; rw [e]; exact ⟨_, rfl⟩
theorem Tr.get_rebuild (f : Nat → Option Ob) : ∀ (n b : Nat), n ≤ 1000000 → (Tr.rebuild f n).get b = if b < n then f b else none
  | 0, b, _ => by simp [Tr.rebuild, Tr.get]
  | n + 1, b, hn => by
    have ih := Tr.get_rebuild f n b (by omega)
    simp only [Tr.rebuild]
    split
    · rename_i o ho
      obtain ⟨t', e⟩ := Tr.put_some 64 n (Tr.rebuild f n) (some o) (by omega) (by decide)
      rw [e, Option.getD_some, Tr.get_put _ _ _ _ _ e b, ih]
      by_cases h : b = n
      · subst h; simp [ho]
      · rw [if_neg h]
        by_cases h2 : b < n
        · rw [if_pos h2, if_pos (by omega)]
        · rw [if_neg h2, if_neg (by omega)]
    · rename_i ho
      rw [ih]
      by_cases h : b = n
      · subst h; simp [ho]
      · by_cases h2 : b < n
        · rw [if_pos h2, if_pos (by omega)]
        · rw [if_neg h2, if_neg (by omega)]
def maskAt (J : List Nat) : Nat → List Value → List Value
  | _, [] => []
  | i, v :: l => (if J.contains i && v.oneCell' then junk else v) :: maskAt J (i + 1) l
def intAt (l : List Value) (i : Nat) : Int := match getL l i with
  | .int _ n => n
  | _ => 0
def isKind (k : IntKind) : Value → Bool
  | .int k' _ => decide (k' = k)
  | _ => false
def famOf (l : List Value) : Cells :=
  match l with
  | .int k _ :: _ => if l.all (isKind k) then .fam l.length (fun j => .int k (intAt l j)) else .lit l
  | _ => .lit l
structure Frm where
  J : List Nat
  fams : List Nat
  JB : List (Nat × List Nat)
def canonOb (a : Frm) (b : Nat) : Ob → Ob
  | .cells (.lit l) t =>
    if a.fams.contains b then .cells (famOf l) t else
    match a.JB.find? (fun x => x.1 == b) with
    | some (_, J) => .cells (.lit (maskAt J 0 l)) t
    | none => .cells (.lit l) t
  | .loop r => match a.JB.find? (fun x => x.1 == b) with
    | some (_, J) => .loop { r with tmps := maskAt J 0 r.tmps }
    | none => .loop r
  | o => o
def canon (a : Frm) (s : St) : St :=
  { s with obl := True, orc := [], tmps := maskAt a.J 0 s.tmps, heap := Tr.rebuild (fun b => match s.heap.get b with
    | some o => some (if s.may b then canonOb a b o else o)
    | none => none) s.next }
theorem mask_vl {N : Nat → Prop} {ρ : Nat → PB} {J : List Nat} : ∀ {l l' : List Value} (i : Nat), VL N ρ l l' → VL N ρ (maskAt J i l) l'
  | [], l', i, h => by rw [h.inv_nil]; exact VL.nil
  | v :: l, l', i, h => by
    obtain ⟨w, r, rfl, h1, h2⟩ := h.inv_cons
    refine VL.cons ?_ (mask_vl (i + 1) h2)
    split
    · rename_i hc
      rw [Bool.and_eq_true] at hc
      exact .any (by rw [h1.one]; exact hc.2)
    · exact h1
theorem maskAt_get {J : List Nat} : ∀ {l : List Value} {k i : Nat} {v : Value}, (maskAt J k l)[i]? = some v → ∃ v0, l[i]? = some v0 ∧ (v = v0 ∨ (v = junk ∧ v0.oneCell' = true))
  | [], k, i, v, h => by simp [maskAt] at h
  | a :: l, k, 0, v, h => by
    simp only [maskAt, List.getElem?_cons_zero, Option.some.injEq] at h
    refine ⟨a, rfl, ?_⟩
    split at h
    · rename_i hc; rw [Bool.and_eq_true] at hc; exact .inr ⟨h.symm, hc.2⟩
    · exact .inl h.symm
  | a :: l, k, i + 1, v, h => by
    simp only [maskAt, List.getElem?_cons_succ] at h
    simpa using maskAt_get h
theorem famOf_get {l : List Value} {i : Nat} {v : Value} (h : (famOf l).get i = some v) : l[i]? = some v := by
  unfold famOf at h
  split at h
  · rename_i k n r
    split at h
    · rename_i ha
      simp only [Cells.get] at h
      split at h
      · rename_i hi
        simp only [Option.some.injEq] at h
        have hm := List.all_eq_true.1 ha _ (List.getElem_mem hi)
        rw [List.getElem?_eq_getElem hi, ← h]
        have e : getL (.int k n :: r) i = (Value.int k n :: r)[i] := by rw [getL_eq, List.getD_eq_getElem?_getD, List.getElem?_eq_getElem hi]; rfl
        have key : ∀ x : Value, isKind k x = true → x = .int k (match x with | .int _ n => n | _ => 0) := fun x hx => by
          cases x <;> simp [isKind] at hx
          rw [hx]
        unfold intAt
        rw [e]
        exact congrArg some (key _ hm)
      · cases h
    · exact h
  · exact h
theorem canonOb_obR {a : Frm} {b : Nat} {N : Nat → Prop} {ρ : Nat → PB} {may : Prop} {p : PB} {w : World} {o : Ob} (h : ObR N ρ may p w o) : ObR N ρ may p w (canonOb a b o) := by
  cases o with
  | cells c t =>
    cases c with
    | lit l =>
      obtain ⟨pc, ty, fr, h1, h2, h3, h4⟩ := h
      simp only [canonOb]
      split
      · exact ⟨pc, ty, fr, h1, h2, h3, fun i v hv => h4 i v (famOf_get hv)⟩
      · split
        · refine ⟨pc, ty, fr, h1, h2, h3, fun i v hv => ?_⟩
          obtain ⟨v0, g1, g2⟩ := maskAt_get hv
          obtain ⟨v', k1, k2⟩ := h4 i v0 g1
          refine ⟨v', k1, ?_⟩
          rcases g2 with rfl | ⟨rfl, g2⟩
          · exact k2
          · exact .any (by rw [k2.one]; exact g2)
        · exact ⟨pc, ty, fr, h1, h2, h3, h4⟩
    | fam n f => exact h
    | rows n w g => exact h
    | ints k l => exact h
  | loop r =>
    obtain ⟨l', h1, h2⟩ := h
    simp only [canonOb]
    split
    · exact ⟨l', h1, ⟨h2.state, h2.pending, mask_vl 0 h2.tmps, h2.params, h2.assign, h2.body, h2.lt, h2.defers⟩⟩
    · exact ⟨l', h1, h2⟩
  | marks => exact h
  | map es k => exact h
  | fam F => exact h
theorem canonOb_far {a : Frm} {b B : Nat} {o : Ob} (h : (canonOb a b o).far B) : o.far B := by
  cases o with
  | fam F => exact h
  | cells c t =>
    exfalso
    obtain ⟨F, g, P, i, v, hF, _⟩ := h
    cases c with
    | lit l =>
      simp only [canonOb] at hF
      split at hF
      · cases hF
      · split at hF <;> cases hF
    | _ => cases hF
  | loop r =>
    exfalso
    obtain ⟨F, g, P, i, v, hF, _⟩ := h
    simp only [canonOb] at hF
    split at hF <;> cases hF
  | marks => exact h
  | map es k => exact h
theorem canon_get {a : Frm} {s : St} (hn : s.next ≤ 1000000) (b : Nat) : (canon a s).heap.get b = if b < s.next then (match s.heap.get b with | some o => some (if s.may b then canonOb a b o else o) | none => none) else none :=
  Tr.get_rebuild _ _ _ hn
theorem canon_rel {a : Frm} {s : St} {ρ : Nat → PB} {w : World} {x : Act} (hn : s.next ≤ 1000000) (h : Rel s ρ w x) : Rel (canon a s) ρ w x ∧ Tra s (canon a s) ρ ρ w w := by
  have dm : Dm (canon a s) = Dm s := rfl
  have old : ∀ (b : Nat) (o : Ob), (canon a s).heap.get b = some o → ∃ o0, s.heap.get b = some o0 ∧ (o = o0 ∨ o = canonOb a b o0) := fun b o hb => by
    rw [canon_get hn] at hb
    split at hb
    · cases hg : s.heap.get b with
      | none => rw [hg] at hb; cases hb
      | some o0 =>
        rw [hg] at hb
        simp only [Option.some.injEq] at hb
        refine ⟨o0, rfl, ?_⟩
        split at hb
        · exact .inr hb.symm
        · exact .inl hb.symm
    · cases hb
  refine ⟨⟨⟨⟨fun b o hb => ?_, fun b b' o o' hb hb' hk e => ?_, fun b b' o o' B hb hB hb' hk => ?_⟩, h.hs.hid, h.hs.wf⟩, mask_vl 0 h.tmps, h.defers, h.marks⟩, ?_⟩
  · obtain ⟨o0, g1, g2⟩ := old b o hb
    obtain ⟨k1, k2⟩ := h.hs.ob b o0 g1
    refine ⟨k1, ?_⟩
    rcases g2 with rfl | rfl
    · exact k2
    · exact canonOb_obR k2
  · obtain ⟨o0, g1, _⟩ := old b o hb
    obtain ⟨o1, g2, _⟩ := old b' o' hb'
    exact h.hs.inj b b' _ _ g1 g2 hk e
  · obtain ⟨o0, g1, g2⟩ := old b o hb
    obtain ⟨o1, g3, _⟩ := old b' o' hb'
    refine h.hs.far b b' _ _ B g1 ?_ g3 hk
    rcases g2 with rfl | rfl
    · exact hB
    · exact canonOb_far hB
  · refine ⟨Nat.le_refl _, fun _ _ => rfl, rfl, rfl, rfl, Nat.le_refl _, fun _ _ _ => rfl, fun b o hb hm => ?_, rfl, rfl, rfl, fun b hb => ?_⟩
    · obtain ⟨o0, g1, _⟩ := old b o hb
      exact .inr ⟨b, o0, g1, hm, rfl⟩
    · have hlt := may_lt h.hs hb
      rw [canon_get hn, if_pos hlt]
      cases s.heap.get b with
      | none => rfl
      | some o => simp only [hb]; rfl
structure Ask where
  frm : Frm
  e : Exit
  fin : St → St
def Given.asking (K : Given) (P : Program) (L : FuncId → St → Option Ask) : Given :=
  { K with loop := fun f c s => match L f s with
      | some a => if s.next ≤ 1000000 then some (a.e, { a.fin (canon a.frm s) with obl := s.obl ∧ ∀ rd, CodeOk P rd (.loop c) (canon a.frm s) a.e (a.fin (canon a.frm s)).bare, orc := s.orc }) else none
      | none => K.loop f c s }
theorem GivenOk.asking {P : Program} {K : Given} (h : GivenOk P K) (L : FuncId → St → Option Ask) : GivenOk P (Given.asking K P L) := by
  refine ⟨h.callObl, h.call, fun {f c s s' e} hc => ?_, fun {f c s s' e} hc => ?_⟩
  · simp only [Given.asking] at hc
    split at hc
    · split at hc
      · simp only [Option.some.injEq, Prod.mk.injEq] at hc; obtain ⟨_, rfl⟩ := hc; exact fun k => k.1
      · cases hc
    · exact h.loopObl hc
  · simp only [Given.asking] at hc
    split at hc
    · rename_i a _
      split at hc
      · rename_i hn
        simp only [Option.some.injEq, Prod.mk.injEq] at hc; obtain ⟨rfl, rfl⟩ := hc
        intro rd ho n ρ w x Q hrd hr hq
        obtain ⟨r1, t1⟩ := canon_rel (a := a.frm) hn hr
        have l1 : Like (a.fin (canon a.frm s)).bare { a.fin (canon a.frm s) with obl := s.obl ∧ ∀ rd, CodeOk P rd (.loop c) (canon a.frm s) a.e (a.fin (canon a.frm s)).bare, orc := s.orc } := ⟨rfl, rfl, rfl, rfl, rfl⟩
        refine ho.2 rd trivial n ρ w x Q (fun l hl => Nat.lt_of_lt_of_le (hrd l hl) t1.next) r1 fun ρ' w' a' r' t' => ?_
        exact hq ρ' w' a' (r'.like l1 rfl rfl) ((t1.trans t').like l1)
      · cases hc
    · exact h.loop hc
end
end Go.Cln
namespace Go.Cln
noncomputable section
def loopsOf : Code → List Code
  | .seq a b => loopsOf a ++ loopsOf b
  | .cond _ a b => loopsOf a ++ loopsOf b
  | .block _ b => loopsOf b
  | .loop b => b :: loopsOf b
  | .rangeFunc _ _ a b => loopsOf a ++ loopsOf b
  | .scope b => loopsOf b
  | _ => []
def loopB (P : Program) (f k : Nat) : Code := match P.funcs[f]? with
  | some fn => match fn.body with
    | some c => (loopsOf c).getD k .skip
    | none => .skip
  | none => .skip
def orI (k : IntKind) (a b : Int) : Int := k.wrap ((BitVec.ofInt k.bits a ||| BitVec.ofInt k.bits b).toNat : Int)
def andI (k : IntKind) (a b : Int) : Int := k.wrap ((BitVec.ofInt k.bits a &&& BitVec.ofInt k.bits b).toNat : Int)
def xorI (k : IntKind) (a b : Int) : Int := k.wrap ((BitVec.ofInt k.bits a ^^^ BitVec.ofInt k.bits b).toNat : Int)
def rowV (k : IntKind) (n : Nat) (g : Nat → Int) : List Value := famList (fun j => .int k (g j)) 0 n
def J (n : Nat) : List Value := List.replicate n junk
def U (n : Nat) : List Value := List.replicate n undef
def P0 (b o : Nat) : Value := .pointer (some ⟨b, o, none⟩)
theorem heap_at {f : Nat → Option Ob} {n b : Nat} {o : Ob} (hn : n ≤ 1000000) (h : (Tr.rebuild f n).get b = some o) : b < n ∧ f b = some o := by
  rw [Tr.get_rebuild f n b hn] at h
  split at h
  · exact ⟨‹_›, h⟩
  · cases h
theorem View.plain {s1 s2 : St} {n : Nat} {f : Nat → Option Ob} (hh : s2.heap = Tr.rebuild f n) (hn : n ≤ 1000000) (h0 : s2.next = n) (h1 : s1.next = n) (hr : s2.roB = s1.roB) (hro : s2.ro = s1.ro) (hhd : s2.hid = s1.hid)
    (ht : maskD s1.tmps s2.tmps = s2.tmps.map (ren id)) (hto : s2.tmps.all (okV s2) = true) (hd : s1.defers = s2.defers.map id) (hdo : s2.defers.all (fun d => decide (d < s2.next)) = true)
    (hok : ∀ b, b < n → okB s2 b = true)
    {s0 : St} (hs0 : s0.next ≤ n) (hsame : ∀ b, b < s0.next → s0.may b = false → f b = s1.heap.get b)
    (hp : ∀ b o, b < n → f b = some o → ∃ o1, s1.heap.get b = some o1 ∧ ObV s2 id o1 o) : View s0 s1 s2 id := by
  refine ⟨by rw [h0]; exact hs0, fun _ _ => rfl, fun _ h => h, hr, hro, hhd, ht, hto, hd, fun d hm => of_decide_eq_true (List.all_eq_true.1 hdo d hm), fun b o hb => ?_, fun _ _ _ _ _ _ e => e, fun b hb hm => ?_⟩
  · rw [hh] at hb
    obtain ⟨k1, k2⟩ := heap_at hn hb
    exact ⟨hok b k1, hp b o k1 k2⟩
  · rw [hh, Tr.get_rebuild f n b hn, if_pos (by omega)]; exact hsame b hb hm
theorem ObV.put {s2 : St} {σ : Nat → Nat} {k : IntKind} {N o : Nat} {g g' : Nat → Int} {v : Int} {t1 t : TypeId} (h : ∀ j, j < N → g' j = if j = o then v else g j) :
    ObV s2 σ (.cells (.fam N (famSet (fun j => .int k (g j)) o [.int k v])) t1) (.cells (.fam N fun j => .int k (g' j)) t) :=
  .ints fun i x hx => by
    simp only [Cells.get] at hx ⊢
    split at hx
    · rename_i hi
      simp only [Option.some.injEq] at hx
      subst hx
      rw [if_pos hi, h i hi]
      simp only [famSet]
      by_cases e : i = o
      · rw [if_pos e, if_pos e]; exact ⟨rfl, rfl⟩
      · rw [if_neg e, if_neg e]; exact ⟨rfl, rfl⟩
    · cases hx
theorem ObV.famEq {s2 : St} {σ : Nat → Nat} {k : IntKind} {N : Nat} {g g' : Nat → Int} {t1 t : TypeId} (h : ∀ j, j < N → g' j = g j) : ObV s2 σ (.cells (.fam N fun j => .int k (g j)) t1) (.cells (.fam N fun j => .int k (g' j)) t) :=
  .ints fun i x hx => by
    simp only [Cells.get] at hx ⊢
    split at hx
    · rename_i hi
      simp only [Option.some.injEq] at hx
      subst hx
      rw [if_pos hi, h i hi]; exact ⟨rfl, rfl⟩
    · cases hx
theorem famList_eq (f : Nat → Value) : ∀ (n o : Nat), famList f o n = (List.range n).map fun j => f (o + j)
  | 0, o => rfl
  | n + 1, o => by
    rw [famList, famList_eq f n (o + 1), List.range_succ_eq_map, List.map_cons, List.map_map]
    refine congrArg (_ :: ·) (List.map_congr_left fun j _ => ?_)
    simp only [Function.comp]
    exact congrArg f (by omega)
theorem rowV_len (k : IntKind) (n : Nat) (g : Nat → Int) : (rowV k n g).length = n := by unfold rowV; rw [famList_eq]; simp
theorem intAt_row {k : IntKind} {n : Nat} {g : Nat → Int} {j : Nat} (h : j < n) : intAt (rowV k n g) j = g j := by
  unfold intAt
  have : getL (rowV k n g) j = .int k (g j) := by
    rw [getL_eq, rowV, famList_eq, List.getD_eq_getElem?_getD, List.getElem?_map, List.getElem?_range h]
    simp
  rw [this]
theorem rowV_of {k : IntKind} {l : List Value} {n : Nat} (hn : l.length = n) (h : l.all (isKind k) = true) : rowV k n (intAt l) = l := by
  subst hn
  unfold rowV
  rw [famList_eq]
  apply List.ext_getElem
  · simp
  · intro i h1 h2
    simp only [List.getElem_map, List.getElem_range, Nat.zero_add]
    have hk := List.all_eq_true.1 h l[i] (List.getElem_mem h2)
    have e : getL l i = l[i] := by rw [getL_eq, List.getD_eq_getElem?_getD, List.getElem?_eq_getElem h2]; rfl
    unfold intAt
    rw [e]
    revert hk
    cases l[i] <;> intro hk <;> simp [isKind] at hk
    rw [hk]
theorem lt3 {b : Nat} (h : b < 3) : b = 0 ∨ b = 1 ∨ b = 2 := by omega
end
end Go.Cln
namespace Go.Cln
def slot (k m : Nat) (b : Nat) : Nat := if b = k then m else b
theorem View.slot {s1 s2 : St} {n k m : Nat} {f : Nat → Option Ob} (hh : s2.heap = Tr.rebuild f n) (hn : n ≤ 1000000) (h0 : s2.next = n) (hr : s2.roB = s1.roB) (hro : s2.ro = s1.ro) (hhd : s2.hid = s1.hid)
    (ht : maskD s1.tmps s2.tmps = s2.tmps.map (ren (slot k m))) (hto : s2.tmps.all (okV s2) = true) (hd : s1.defers = s2.defers.map (Go.Cln.slot k m)) (hdo : s2.defers.all (fun d => decide (d < s2.next)) = true)
    (hok : ∀ b, b < n → okB s2 b = true)
    {s0 : St} (hs0 : s0.next ≤ n) (hk : s0.next ≤ k) (hm : n ≤ m) (hsame : ∀ b, b < s0.next → s0.may b = false → f b = s1.heap.get b)
    (hp : ∀ b o, b < n → f b = some o → ∃ o1, s1.heap.get (Go.Cln.slot k m b) = some o1 ∧ ObV s2 (Go.Cln.slot k m) o1 o) : View s0 s1 s2 (Go.Cln.slot k m) := by
  refine ⟨by rw [h0]; exact hs0, fun b hb => ?_, fun b hb => ?_, hr, hro, hhd, ht, hto, hd, fun d hm => of_decide_eq_true (List.all_eq_true.1 hdo d hm), fun b o hb => ?_, fun b b' o o' hb hb' e => ?_, fun b hb hm => ?_⟩
  · unfold Go.Cln.slot; rw [if_neg (by omega)]
  · unfold Go.Cln.slot; split <;> omega
  · rw [hh] at hb
    obtain ⟨k1, k2⟩ := heap_at hn hb
    exact ⟨hok b k1, hp b o k1 k2⟩
  · rw [hh] at hb hb'
    have k1 := (heap_at hn hb).1
    have k2 := (heap_at hn hb').1
    unfold Go.Cln.slot at e
    split at e <;> split at e <;> omega
  · rw [hh, Tr.get_rebuild f n b hn, if_pos (by omega)]; exact hsame b hb hm
theorem ObV.grow {s2 : St} {σ : Nat → Nat} {k : IntKind} {N : Nat} {g g' : Nat → Int} {v : Int} {t1 t : TypeId} (h : ∀ j, j < N → g' j = g j) (hv : g' N = v) :
    ObV s2 σ (.cells (.lit (famList (fun j => .int k (g j)) 0 (N * 1) ++ [.int k v])) t1) (.cells (.fam (N + 1) fun j => .int k (g' j)) t) :=
  .ints fun i x hx => by
    simp only [Cells.get] at hx ⊢
    split at hx
    · rename_i hi
      simp only [Option.some.injEq] at hx
      subst hx
      rw [Nat.mul_one, famList_eq]
      by_cases e : i < N
      · rw [List.getElem?_append_left (by simpa using e), List.getElem?_map, List.getElem?_range e, h i e]
        exact ⟨by simp, rfl⟩
      · have : i = N := by omega
        subst this
        rw [List.getElem?_append_right (by simp), hv]
        exact ⟨by simp, rfl⟩
    · cases hx
theorem ObV.litFam {s2 : St} {σ : Nat → Nat} {k : IntKind} {l : List Value} {n : Nat} {g : Nat → Int} {t1 t : TypeId} (h : ∀ j, j < n → l[j]? = some (.int k (g j))) : ObV s2 σ (.cells (.lit l) t1) (.cells (.fam n fun j => .int k (g j)) t) :=
  .ints fun i x hx => by
    simp only [Cells.get] at hx ⊢
    split at hx
    · rename_i hi
      simp only [Option.some.injEq] at hx
      subst hx
      exact ⟨h i hi, rfl⟩
    · cases hx
def Given.reads (K : Given) (F : FuncId → List Value → St → Option Value) : Given := { K with call := fun f args s => match F f args s with
  | some v => some (v, s)
  | none => K.call f args s }
theorem GivenOk.reads {P : Program} {K : Given} (hK : GivenOk P K) {F : FuncId → List Value → St → Option Value}
    (h : ∀ f args s v, F f args s = some v → flat v = true ∧ ∀ (ρ : Nat → PB) (w : World) (args' : List Value), Hs s ρ w → VL (Dm s) ρ args args' → Calls P f args'.toArray w fun e w' => e = .returned v ∧ Go.RowKit.Below w.heap.size w w') : GivenOk P (Given.reads K F) := by
  refine ⟨fun {f args s s' v} hc => ?_, fun {f args s s' v} hc => ?_, hK.loopObl, hK.loop⟩
  · simp only [Given.reads] at hc
    split at hc
    · cases hc; exact id
    · exact hK.callObl hc
  · simp only [Given.reads] at hc
    split at hc
    · rename_i v0 hF
      cases hc
      obtain ⟨h1, h2⟩ := h _ _ _ _ hF
      intro ho n ρ w args' hs hl
      refine callsIn_wide.2 ((h2 ρ w args' hs hl).mono ?_)
      rintro e w' ⟨rfl, hb⟩
      obtain ⟨g1, g2⟩ := hs.below hb
      exact ⟨_, ρ, rfl, .of_flat h1, g1, g2⟩
    · exact hK.call hc
def rowHeap (k : IntKind) (n : Nat) (g : Nat → Int) (t : TypeId) : Tr := Tr.rebuild (fun i => match i with | 0 => some (.cells (.fam n fun j => .int k (g j)) t) | _ => none) 1
theorem row_hs {k : IntKind} {s : St} {ρ : Nat → PB} {w : World} {b o n c c' : Nat} {g : Nat → Int} {sp : Option Nat} {l : List Value} {t t0 : TypeId} {a' : Addr} (hs : Hs s ρ w) (hb : s.heap.get b = some (.cells (.lit l) t))
    (hl : ∀ i, i < n → l[o + i]? = some (.int k (g i))) (hsl : SliceOk (ρ b) o sp c a' c') (hnc : n ≤ c) (hn : n ≠ 0) :
    Hs (St.start 1 (rowHeap k n g t0) []) (fun _ => ⟨a'.block, a'.off, (ρ b).len⟩) w ∧ VR (Dm (St.start 1 (rowHeap k n g t0) [])) (fun _ => ⟨a'.block, a'.off, (ρ b).len⟩) (.slice (some ⟨0, 0, none⟩) n c') (.slice (some a') n c') := by
  have hat := hsl.at (by omega)
  have hle := hsl.le
  subst hat
  refine ⟨⟨⟨fun x y hx => ?_, fun x x' y y' hx hx' _ _ => ?_, fun x x' y y' B hx hB hx' hk => absurd hk (by obtain ⟨g2, _⟩ := heap_at (by omega) (show (rowHeap k n g t0).get x' = some y' from hx'); show ¬ 1 ≤ x'; omega)⟩, fun _ _ => rfl, ⟨Nat.le_refl _, fun x hx => by simp [St.start] at hx⟩⟩, .slice ⟨Nat.zero_lt_one, rfl⟩ (by omega) ⟨.inr (by simp), fun _ => rfl, fun z hz => by cases hz⟩⟩
  · have hx' : (rowHeap k n g t0).get x = some y := hx
    obtain ⟨h1, h2⟩ := heap_at (by omega) hx'
    have : x = 0 := by omega
    subst this
    simp only [Option.some.injEq] at h2
    subst h2
    obtain ⟨pc, ty, fr, g1, g2, _, g4⟩ := (hs.ob b _ hb).2
    refine ⟨⟨h1, rfl⟩, pc, ty, fr, g1, g2, fun m => absurd m (by simp [St.start]), fun i v hv => ?_⟩
    simp only [Cells.get] at hv
    split at hv
    · rename_i hi
      simp only [Option.some.injEq] at hv
      subst hv
      obtain ⟨v', k1, k2⟩ := g4 (o + i) _ (hl i hi)
      refine ⟨v', ?_, ?_⟩
      · show pc[(ρ b).off + o + i]? = _
        rw [Nat.add_assoc]; exact k1
      · have := k2.eq_flat0 rfl
        subst this; exact .same rfl
    · cases hv
  · obtain ⟨h1, _⟩ := heap_at (by omega) (show (rowHeap k n g t0).get x = some y from hx)
    obtain ⟨h2, _⟩ := heap_at (by omega) (show (rowHeap k n g t0).get x' = some y' from hx')
    omega
end Go.Cln
namespace Go.Cln
open Go.WideShapes in
theorem open_row {P : Program} {w : World} {r : Reach} {b0 : Nat} {t u : TypeId} {v : Value} {n : Nat} {k : IntKind} (hs : (match P.underlying t with | some (.struct _) | some (.array _ _) => true | _ => false) = true)
    (hts : P.cellTypes P.depth t = some (List.replicate n u)) (hn : P.cellsOf t = n) (hu : P.underlying u = some (.int k)) (h : Value.okWide P w r b0 t v) :
    ∃ g : Nat → Int, v = .agg (rowV k n g).toArray ∧ ∀ j, j < n → (Lit.int k (g j)).wf = true := by
  obtain ⟨l, rfl, hl, hc⟩ := open_agg hs hts (by rw [hn]; simp) h
  have hl' : l.length = n := by simpa using hl
  have cell : ∀ (i : Nat) (x : Value), l[i]? = some x → ∃ m, x = .int k m ∧ (Lit.int k m).wf = true := fun i x hx => by
    have hi : i < n := by
      rcases Nat.lt_or_ge i l.length with h | h
      · omega
      · rw [List.getElem?_eq_none h] at hx; cases hx
    exact cell_int hu (hc i x u hx (by rw [List.getElem?_replicate, if_pos hi]))
  have hk : l.all (isKind k) = true := by
    rw [List.all_eq_true]
    intro x hx
    obtain ⟨i, hi, rfl⟩ := List.getElem_of_mem hx
    obtain ⟨m, hm, _⟩ := cell i l[i] (by rw [List.getElem?_eq_getElem hi])
    rw [hm]; simp [isKind]
  refine ⟨intAt l, by rw [rowV_of hl' hk], fun j hj => ?_⟩
  obtain ⟨m, hm, hw⟩ := cell j l[j] (by rw [List.getElem?_eq_getElem (by omega)])
  have e : getL l j = l[j] := by rw [getL_eq, List.getD_eq_getElem?_getD, List.getElem?_eq_getElem (by omega)]; rfl
  unfold intAt
  rw [e, hm]; exact hw
def orF (F G : FuncId → List Value → Option Value) (f : FuncId) (args : List Value) : Option Value := match F f args with
  | some v => some v
  | none => G f args
def CallsOk (P : Program) (F : FuncId → List Value → Option Value) : Prop := ∀ f args v, F f args = some v → args.all flat = true ∧ flat v = true ∧ ∀ W : World, Calls P f args.toArray W fun e w' => e = .returned v ∧ Go.RowKit.Below W.heap.size W w'
theorem CallsOk.or {P : Program} {F G : FuncId → List Value → Option Value} (hF : CallsOk P F) (hG : CallsOk P G) : CallsOk P (orF F G) := fun f args v h => by
  unfold orF at h
  split at h
  · rename_i hv; cases h; exact hF _ _ _ hv
  · exact hG _ _ _ h
def oneF (k : FuncId) (v : Value) (f : FuncId) (args : List Value) : Option Value := if f == k then match args with
  | [] => some v
  | _ => none else none
theorem CallsOk.one {P : Program} {k : FuncId} {v : Value} (hv : flat v = true) (h : ∀ W : World, Calls P k #[] W fun e w' => e = .returned v ∧ Go.RowKit.Below W.heap.size W w') : CallsOk P (oneF k v) := fun f args x hx => by
  unfold oneF at hx
  split at hx
  · rename_i hf
    have hf' : f = k := by simpa using hf
    subst hf'
    split at hx
    · cases hx; exact ⟨rfl, hv, h⟩
    · cases hx
  · cases hx
end Go.Cln
