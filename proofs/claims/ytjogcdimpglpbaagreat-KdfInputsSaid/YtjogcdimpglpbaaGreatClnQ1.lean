/- A determinate reading of Go's code: pictures of a world that are drawn anew; loops by induction; what is asked for later. -/
import Derived.Test.YtjogcdimpglpbaaGreatClnP27
import Derived.LoopNIn
namespace Go.Cln
set_option linter.unusedVariables false
set_option linter.unusedSimpArgs false
set_option linter.deprecated false

/-- what nobody looks at any more -/
def junk : Value := .chan (some 0)
def isJ : Value → Bool
  | .chan (some 0) => true
  | _ => false
theorem isJ_eq {v : Value} (h : isJ v = true) : v = junk := by
  unfold isJ at h
  split at h
  · rfl
  · cases h
def maskJ : List Value → List Value → List Value
  | v1 :: l1, v2 :: l2 => (if isJ v2 && v1.oneCell' then junk else v1) :: maskJ l1 l2
  | l1, _ => l1
theorem maskJ_vl {N : Nat → Prop} {ρ : Nat → PB} : ∀ {l1 l2 l' : List Value}, VL N ρ l1 l' → VL N ρ (maskJ l1 l2) l'
  | [], l2, l', h => by cases l2 <;> exact h
  | v :: l, [], l', h => h
  | v :: l, v2 :: l2, l', h => by
    obtain ⟨w, r, rfl, h1, h2⟩ := h.inv_cons
    refine VL.cons ?_ (maskJ_vl h2)
    split
    · rename_i hc
      rw [Bool.and_eq_true] at hc
      exact .any (by rw [h1.one]; exact hc.2)
    · exact h1

/-! ### blocks by other names -/
def renL (σ : Nat → Nat) : Value → Value
  | .pointer (some a) => .pointer (some { a with block := σ a.block })
  | .slice (some a) n c => .slice (some { a with block := σ a.block }) n c
  | .map (some b) => .map (some (σ b))
  | .func (.yield l) x y => .func (.yield (σ l)) x y
  | v => v
def renA (r : Value → Value) (σ : Nat → Nat) : Value → Value
  | .agg x => .agg (x.toList.map r).toArray
  | .tuple x => .tuple (x.toList.map r).toArray
  | .func (.func f) x y => .func (.func f) (x.toList.map r).toArray (y.toList.map r).toArray
  | v => renL σ v
def ren (σ : Nat → Nat) : Value → Value := renA (renA (renL σ) σ) σ
def okB (s : St) (b : Nat) : Bool := decide (b < s.next) && !s.hid b
def okL (s : St) : Value → Bool
  | .pointer (some a) => okB s a.block
  | .slice (some a) _ _ => okB s a.block
  | .map (some b) => okB s b
  | .func (.yield l) _ _ => okB s l
  | .chan (some 0) => true
  | v => flat0 v
def okA (o : Value → Bool) (s : St) : Value → Bool
  | .agg x => x.toList.all o
  | .tuple x => x.toList.all o
  | .func (.func _) x y => x.toList.all o && y.toList.all o
  | v => okL s v
def okV (s : St) : Value → Bool := okA (okA (okL s) s) s

theorem okB_dm {s : St} {b : Nat} (h : okB s b = true) : Dm s b := by
  unfold okB at h; rw [Bool.and_eq_true] at h
  exact ⟨of_decide_eq_true h.1, by simpa using h.2⟩

section
variable {N1 : Nat → Prop} {s2 : St} {ρ1 ρ2 : Nat → PB} {σ : Nat → Nat}
theorem renL_sound (hρ : ∀ b, ρ2 b = ρ1 (σ b)) : ∀ (v w : Value), okL s2 v = true → VR N1 ρ1 (renL σ v) w → VR (Dm s2) ρ2 v w := by
  intro v w ho h
  have plain : flat0 v = true → renL σ v = v → VR (Dm s2) ρ2 v w := fun hf e => by
    rw [e] at h; rw [h.eq_flat0 hf]; exact .same hf
  cases v with
  | pointer a =>
    cases a with
    | none => exact plain rfl rfl
    | some a =>
      obtain ⟨b, o, sp⟩ := a
      simp only [renL] at h
      cases h with
      | same hf => simp [flat0] at hf
      | ptr hN => rw [← hρ]; exact .ptr (okB_dm ho)
  | slice a n c =>
    cases a with
    | none => exact plain rfl rfl
    | some a =>
      obtain ⟨b, o, sp⟩ := a
      simp only [renL] at h
      cases h with
      | same hf => simp [flat0] at hf
      | slice hN hn hs => exact .slice (okB_dm ho) hn (by rw [hρ]; exact hs)
  | map b =>
    cases b with
    | none => exact plain rfl rfl
    | some b =>
      simp only [renL] at h
      cases h with
      | same hf => simp [flat0] at hf
      | mapv hN => rw [← hρ]; exact .mapv (okB_dm ho)
  | func f x y =>
    cases f with
    | yield l =>
      simp only [renL] at h
      cases h with
      | same hf => simp [flat0] at hf
      | yield hN => rw [← hρ]; exact .yield (okB_dm ho)
    | _ => exact plain ho rfl
  | chan r =>
    cases r with
    | none => exact plain ho rfl
    | some k =>
      cases k with
      | zero =>
        simp only [renL] at h
        cases h with
        | same hf => simp [flat0] at hf
        | any hw => exact .any hw
      | succ k => exact plain ho rfl
  | _ => exact plain ho rfl
theorem renA_sound (hρ : ∀ b, ρ2 b = ρ1 (σ b)) {r : Value → Value} {o : Value → Bool} (hr : ∀ (v w : Value), o v = true → VR N1 ρ1 (r v) w → VR (Dm s2) ρ2 v w) :
    ∀ (v w : Value), okA o s2 v = true → VR N1 ρ1 (renA r σ v) w → VR (Dm s2) ρ2 v w := by
  have rows : ∀ (x : Array Value) (x' : Array Value), x.toList.all o = true → (x.toList.map r).toArray.toList.length = x'.toList.length → (∀ (i : Nat) (v w : Value), (x.toList.map r).toArray.toList[i]? = some v → x'.toList[i]? = some w → VR N1 ρ1 v w) →
      x.toList.length = x'.toList.length ∧ ∀ (i : Nat) (v w : Value), x.toList[i]? = some v → x'.toList[i]? = some w → VR (Dm s2) ρ2 v w := fun x x' ha h1 h2 => by
    refine ⟨by simpa using h1, fun i v w hv hw => ?_⟩
    refine hr v w (List.all_eq_true.1 ha v (List.mem_of_getElem? hv)) (h2 i _ w ?_ hw)
    show (x.toList.map r)[i]? = some (r v)
    rw [List.getElem?_map, hv]; rfl
  intro v w ho h
  cases v with
  | agg x =>
    simp only [renA] at h
    cases h with
    | same hf => simp [flat0] at hf
    | agg h1 h2 => obtain ⟨a, b⟩ := rows x _ ho h1 h2; exact .agg a b
  | tuple x =>
    simp only [renA] at h
    cases h with
    | same hf => simp [flat0] at hf
    | tup h1 h2 => obtain ⟨a, b⟩ := rows x _ ho h1 h2; exact .tup a b
  | func f x y =>
    cases f with
    | func f =>
      simp only [renA] at h
      simp only [okA, Bool.and_eq_true] at ho
      cases h with
      | same hf =>
        simp only [flat0, Bool.and_eq_true, List.isEmpty_iff, List.map_eq_nil_iff] at hf
        obtain ⟨hx, hy⟩ := hf
        obtain ⟨x⟩ := x; obtain ⟨y⟩ := y
        simp only at hx hy
        subst hx; subst hy
        exact .same rfl
      | fn h1 h2 h3 h4 => obtain ⟨a, b⟩ := rows x _ ho.1 h1 h2; obtain ⟨c, d⟩ := rows y _ ho.2 h3 h4; exact .fn a b c d
    | _ => exact renL_sound hρ _ _ ho h
  | _ => exact renL_sound hρ _ _ ho h
theorem ren_sound (hρ : ∀ b, ρ2 b = ρ1 (σ b)) (v w : Value) (ho : okV s2 v = true) (h : VR N1 ρ1 (ren σ v) w) : VR (Dm s2) ρ2 v w :=
  renA_sound hρ (renA_sound hρ (renL_sound hρ)) v w ho h
theorem renAll_sound (hρ : ∀ b, ρ2 b = ρ1 (σ b)) {l l' : List Value} (ho : l.all (okV s2) = true) (h : VL N1 ρ1 (l.map (ren σ)) l') : VL (Dm s2) ρ2 l l' :=
  ⟨by simpa using h.1, fun i v w hv hw => ren_sound hρ v w (List.all_eq_true.1 ho v (List.mem_of_getElem? hv)) (h.2 i _ w (by rw [List.getElem?_map, hv]; rfl) hw)⟩
end

/-- an object of one picture, as another one has it -/
inductive ObV (s2 : St) (σ : Nat → Nat) : Ob → Ob → Prop
  | cells {c1 c : Cells} {t1 t : TypeId} : (∀ (i : Nat) (v : Value), c.get i = some v → ∃ v1, c1.get i = some v1 ∧ (v1 = ren σ v ∨ (v = junk ∧ v1.oneCell' = true)) ∧ okV s2 v = true) → ObV s2 σ (.cells c1 t1) (.cells c t)
  | loop {l1 l : CLoop} : l1.state = l.state → l1.pending = l.pending → maskJ l1.tmps l.tmps = l.tmps.map (ren σ) → l.tmps.all (okV s2) = true → l1.params = l.params → l1.assign = l.assign → l1.body = l.body → l1.defers = σ l.defers → okB s2 l.defers = true → ObV s2 σ (.loop l1) (.loop l)
  | marks : ObV s2 σ .marks .marks
  | map {es1 es : List MapEntry} {k : Nat} : es1 = es.map (fun e => { e with val := ren σ e.val }) → es.all (fun e => okV s2 e.val) = true → ObV s2 σ (.map es1 k) (.map es k)
theorem maskJ_get : ∀ {l1 l2 : List Value} {i : Nat} {v : Value}, (maskJ l1 l2)[i]? = some v → ∃ v1, l1[i]? = some v1 ∧ (v1 = v ∨ (v = junk ∧ v1.oneCell' = true))
  | [], l2, i, v, h => by cases l2 <;> simp [maskJ] at h
  | a :: l, [], i, v, h => ⟨v, h, .inl rfl⟩
  | a :: l, b :: r, 0, v, h => by
    simp only [maskJ, List.getElem?_cons_zero, Option.some.injEq] at h
    refine ⟨a, rfl, ?_⟩
    split at h
    · rename_i hc; rw [Bool.and_eq_true] at hc; exact .inr ⟨h.symm, hc.2⟩
    · exact .inl h
  | a :: l, b :: r, i + 1, v, h => by
    simp only [maskJ, List.getElem?_cons_succ] at h
    simpa using maskJ_get h
theorem ren_junk {σ : Nat → Nat} {v : Value} (h : ren σ v = junk) : v = junk := by
  unfold ren at h
  cases v with
  | chan r => exact h
  | pointer a => cases a <;> cases h
  | slice a n c => cases a <;> cases h
  | map a => cases a <;> cases h
  | func f x y => cases f <;> cases h
  | _ => cases h
theorem ObV.lit {s2 : St} {σ : Nat → Nat} {l1 l : List Value} {t1 t : TypeId} (h : maskJ l1 l = l.map (ren σ)) (ho : l.all (okV s2) = true) : ObV s2 σ (.cells (.lit l1) t1) (.cells (.lit l) t) :=
  .cells fun i v hv => by
    simp only [Cells.get] at hv ⊢
    have h1 : (maskJ l1 l)[i]? = some (ren σ v) := by rw [h, List.getElem?_map, hv]; rfl
    obtain ⟨v1, g1, g2⟩ := maskJ_get h1
    refine ⟨v1, g1, ?_, List.all_eq_true.1 ho v (List.mem_of_getElem? hv)⟩
    rcases g2 with g2 | ⟨g2, g3⟩
    · exact .inl g2
    · exact .inr ⟨ren_junk g2, g3⟩
theorem ren_flat0 (σ : Nat → Nat) {v : Value} (h : flat0 v = true) : ren σ v = v := by
  cases v with
  | pointer a => cases a <;> first | rfl | (simp [flat0] at h)
  | slice a n c => cases a <;> first | rfl | (simp [flat0] at h)
  | map a => cases a <;> first | rfl | (simp [flat0] at h)
  | func f x y =>
    cases f with
    | func f =>
      simp only [flat0, Bool.and_eq_true, List.isEmpty_iff] at h
      obtain ⟨x⟩ := x; obtain ⟨y⟩ := y
      simp only at h
      obtain ⟨rfl, rfl⟩ := h; rfl
    | _ => simp [flat0] at h
  | agg => simp [flat0] at h
  | tuple => simp [flat0] at h
  | _ => rfl
theorem okV_flat0 (s : St) {v : Value} (h : flat0 v = true) : okV s v = true := by
  cases v with
  | pointer a => cases a <;> first | rfl | (simp [flat0] at h)
  | slice a n c => cases a <;> first | rfl | (simp [flat0] at h)
  | map a => cases a <;> first | rfl | (simp [flat0] at h)
  | func f x y =>
    cases f with
    | func f =>
      simp only [flat0, Bool.and_eq_true, List.isEmpty_iff] at h
      obtain ⟨x⟩ := x; obtain ⟨y⟩ := y
      simp only at h
      obtain ⟨rfl, rfl⟩ := h; rfl
    | _ => simp [flat0] at h
  | agg => simp [flat0] at h
  | chan r =>
    cases r with
    | none => rfl
    | some k => simp [flat0] at h
  | tuple => simp [flat0] at h
  | _ => exact h
/-- cells of whole numbers, in whatever form -/
theorem ObV.ints {s2 : St} {σ : Nat → Nat} {c1 c : Cells} {t1 t : TypeId} (h : ∀ (i : Nat) (v : Value), c.get i = some v → c1.get i = some v ∧ flat0 v = true) : ObV s2 σ (.cells c1 t1) (.cells c t) :=
  .cells fun i v hv => ⟨v, (h i v hv).1, .inl (ren_flat0 σ (h i v hv).2).symm, okV_flat0 s2 (h i v hv).2⟩

/-- s2 draws the world that s1 draws, seen from the base s0 -/
structure View (s0 s1 s2 : St) (σ : Nat → Nat) : Prop where
  next : s0.next ≤ s2.next
  idn : ∀ b, b < s0.next → σ b = b
  fresh : ∀ b, s0.next ≤ b → s0.next ≤ σ b
  roB : s2.roB = s1.roB
  ro : s2.ro = s1.ro
  hid : s2.hid = s1.hid
  tmps : maskJ s1.tmps s2.tmps = s2.tmps.map (ren σ)
  okT : s2.tmps.all (okV s2) = true
  defers : s1.defers = s2.defers.map σ
  okD : ∀ d ∈ s2.defers, d < s2.next
  heap : ∀ (b : Nat) (o : Ob), s2.heap.get b = some o → okB s2 b = true ∧ ∃ o1, s1.heap.get (σ b) = some o1 ∧ ObV s2 σ o1 o
  inj : ∀ (b b' : Nat) (o o' : Ob), s2.heap.get b = some o → s2.heap.get b' = some o' → σ b = σ b' → b = b'
  same : ∀ b, b < s0.next → s0.may b = false → s2.heap.get b = s1.heap.get b

theorem may_lt {s : St} {ρ : Nat → PB} {w : World} (hs : Hs s ρ w) {b : Nat} (h : s.may b = false) : b < s.next := by
  rcases Nat.lt_or_ge b s.next with h1 | h1
  · exact h1
  · rw [hs.may_next h1] at h; cases h

/-- a world and an activation, as s tells them, behind the base -/
def Pic (s0 : St) (ρ0 : Nat → PB) (w0 : World) (s : St) (w : World) (a : Act) : Prop := ∃ ρ, Rel s ρ w a ∧ Tra s0 s ρ0 ρ w0 w

theorem Pic.view {s0 s1 s2 : St} {ρ0 : Nat → PB} {w0 w : World} {a : Act} {σ : Nat → Nat} (hs0 : Hs s0 ρ0 w0) (v : View s0 s1 s2 σ) (h : Pic s0 ρ0 w0 s1 w a) : Pic s0 ρ0 w0 s2 w a := by
  obtain ⟨ρ1, r, t⟩ := h
  have hρ : ∀ b, (fun b => ρ1 (σ b)) b = ρ1 (σ b) := fun _ => rfl
  have hro : s0.roB ≤ s0.next := hs0.wf.1
  have hmay : ∀ b, s2.may b = s0.may b := fun b => by rw [may_of v.roB v.ro, may_of t.roB t.ro]
  have hmay1 : ∀ b, s1.may b = s0.may b := fun b => may_of t.roB t.ro b
  refine ⟨fun b => ρ1 (σ b), ⟨⟨⟨fun b o hb => ?_, fun b b' o o' hb hb' e => ?_⟩, fun b hb => ?_, ?_⟩, ?_, ?_, v.okD⟩, ?_⟩
  · obtain ⟨hd, o1, h1, ho⟩ := v.heap b o hb
    obtain ⟨_, k⟩ := r.hs.ob _ _ h1
    refine ⟨okB_dm hd, ?_⟩
    have hr : s2.roB ≤ b → s1.roB ≤ σ b := fun hb => by
      rw [v.roB] at hb
      rcases Nat.lt_or_ge b s0.next with hlt | hge
      · rw [v.idn b hlt]; exact hb
      · have := v.fresh b hge; rw [t.roB]; omega
    cases ho with
    | cells hc =>
      obtain ⟨pc, ty, fr, k1, k2, k3, k4⟩ := k
      refine ⟨pc, ty, fr, k1, k2, fun m => k3 (hr m), fun i x hx => ?_⟩
      obtain ⟨v1, y1, y2, y3⟩ := hc i x hx
      obtain ⟨z, z1, z2⟩ := k4 i _ y1
      refine ⟨z, z1, ?_⟩
      rcases y2 with rfl | ⟨rfl, y2⟩
      · exact ren_sound hρ x z y3 z2
      · exact .any (by rw [z2.one]; exact y2)
    | loop e1 e2 e3 e4 e5 e6 e7 e8 e9 =>
      rename_i lo1 lo
      obtain ⟨l', k1, k2⟩ := k
      refine ⟨l', k1, ⟨k2.state.trans e1, k2.pending.trans e2, ?_, k2.params.trans e5, k2.assign.trans e6, k2.body.trans e7, okB_dm e9, ?_⟩⟩
      · have := maskJ_vl (l2 := lo.tmps) k2.tmps; rw [e3] at this; exact renAll_sound hρ e4 this
      · rw [k2.defers, e8]
    | marks => exact k
    | map e1 e2 =>
      rename_i es1 es kk
      obtain ⟨es', k1, k2, k3⟩ := k
      refine ⟨es', k1, by rw [k2, e1]; simp, fun i x y hx hy => ?_⟩
      obtain ⟨y1, y2, y3⟩ := k3 i { x with val := ren σ x.val } y (by rw [e1, List.getElem?_map, hx]; rfl) hy
      exact ⟨y1, y2, ren_sound hρ _ _ (List.all_eq_true.1 e2 x (List.mem_of_getElem? hx)) y3⟩
  · obtain ⟨_, o1, h1, _⟩ := v.heap b o hb
    obtain ⟨_, o2, h2, _⟩ := v.heap b' o' hb'
    exact v.inj b b' o o' hb hb' (r.hs.inj _ _ _ _ h1 h2 e)
  · rw [v.hid, t.hid]; exact hs0.hid b (Nat.le_trans v.next hb)
  · rw [v.roB, v.ro, t.roB, t.ro]
    exact ⟨Nat.le_trans hro v.next, fun b hb => Nat.lt_of_lt_of_le (hs0.wf.2 b hb) v.next⟩
  · have := maskJ_vl (l2 := s2.tmps) r.tmps; rw [v.tmps] at this; exact renAll_sound hρ v.okT this
  · rw [r.defers, v.defers]; simp [marksOf]
  · refine ⟨v.next, fun b hb => ?_, t.os, t.tape, t.output, t.size, t.frame, fun b o hb hm => ?_, v.roB.trans t.roB, v.ro.trans t.ro, v.hid.trans t.hid, fun b hb => ?_⟩
    · show ρ1 (σ b) = ρ0 b
      rw [v.idn b hb]; exact t.ext b hb
    · obtain ⟨_, o1, h1, _⟩ := v.heap b o hb
      refine t.own (σ b) o1 h1 ?_
      rw [hmay1]; rw [hmay] at hm
      rcases Nat.lt_or_ge b s0.next with hlt | hge
      · rw [v.idn b hlt]; exact hm
      · exact hs0.may_next (v.fresh b hge)
    · have := may_lt hs0 hb
      rw [v.same b this hb]; exact t.same b hb

/-- a state as it is seen from without: nothing asked for, nothing taken on trust -/
def St.bare (s : St) : St := { s with obl := True, orc := [] }
theorem St.bare_like (s : St) : Like s s.bare := ⟨rfl, rfl, rfl, rfl, rfl⟩
theorem Rel.like {s s' : St} {ρ : Nat → PB} {w : World} {a : Act} (h : Rel s ρ w a) (l : Like s s') (ht : s'.tmps = s.tmps) (hd : s'.defers = s.defers) : Rel s' ρ w a :=
  h.after (Tra.refl _ _ _) h.hs l ht hd

/-- a piece of code, from one picture to others -/
def Step (P : Program) (rd : Option Nat) (s0 : St) (c : Code) (s : St) (Q : Exit → St → Prop) : Prop :=
  ∀ (n : Nat) (ρ0 : Nat → PB) (w0 w : World) (a : Act) (R : Exit → Act → World → Prop), (∀ l, rd = some l → l < s0.next) → Hs s0 ρ0 w0 → Pic s0 ρ0 w0 s w a →
    (∀ e s' w' a', Q e s' → Pic s0 ρ0 w0 s' w' a' → R e a' w') → c.wpIn (fenceOf rd ρ0) n P R a w

theorem Step.mono {P : Program} {rd : Option Nat} {s0 : St} {c : Code} {s : St} {Q Q' : Exit → St → Prop} (h : Step P rd s0 c s Q) (hq : ∀ e s', Q e s' → Q' e s') : Step P rd s0 c s Q' :=
  fun n ρ0 w0 w a R h1 h2 h3 h4 => h n ρ0 w0 w a R h1 h2 h3 fun e s' w' a' hQ => h4 e s' w' a' (hq e s' hQ)
theorem Step.view {P : Program} {rd : Option Nat} {s0 : St} {c : Code} {s s2 : St} {Q : Exit → St → Prop} {σ : Nat → Nat} (v : View s0 s s2 σ) (h : Step P rd s0 c s2 Q) : Step P rd s0 c s Q :=
  fun n ρ0 w0 w a R h1 h2 h3 h4 => h n ρ0 w0 w a R h1 h2 (h3.view h2 v) h4
/-- a reading that the kernel has run, and another picture of what it comes to -/
theorem Step.run {P : Program} {rd : Option Nat} {s0 s s1 s2 : St} {c : Code} {e : Exit} {σ : Nat → Nat} (h : CodeOk P rd c s e s1) (ho : s1.obl) (hn : s0.next ≤ s.next) (v : View s0 s1 s2 σ) : Step P rd s0 c s (fun e' s' => e' = e ∧ s' = s2) := by
  intro n ρ0 w0 w a R h1 h2 ⟨ρ, r, t⟩ h4
  have := h ho n ρ w a R (fun l hl => Nat.lt_of_lt_of_le (h1 l hl) hn) r fun ρ' w' a' r' t' => h4 e s2 w' a' ⟨rfl, rfl⟩ (Pic.view h2 v ⟨ρ', r', t.trans t'⟩)
  rwa [fenceOf_ext h1 t.ext] at this

/-- the same, where the reading had things taken on trust -/
theorem Step.exec {P : Program} (G : PG P) {K : Given} (hK : GivenOk P K) {n : Nat} {f : FuncId} {rd : Option Nat} {s0 s s2 : St} {c : Code} {e : Exit} {p : Prop} {o : List (Option Bool)} {σ : Nat → Nat}
    (hr : ((mk P K n).code f rd c { s with obl := True, orc := o }).map (fun r => (r.1, r.2.obl)) = some (e, p)) (hp : p) (hn : s0.next ≤ s.next)
    (v : View s0 ((((mk P K n).code f rd c { s with obl := True, orc := o }).map (·.2)).getD s) s2 σ) : Step P rd s0 c s (fun e' s' => e' = e ∧ s' = s2) := by
  cases hc : (mk P K n).code f rd c { s with obl := True, orc := o } with
  | none => rw [hc] at hr; simp at hr
  | some r =>
    obtain ⟨e1, s1⟩ := r
    rw [hc] at hr v
    simp only [Option.map_some, Option.some.injEq, Prod.mk.injEq, Option.getD_some] at hr v
    obtain ⟨rfl, hq⟩ := hr
    have l1 : Like s { s with obl := True, orc := o } := ⟨rfl, rfl, rfl, rfl, rfl⟩
    have h := (mk_ok G hK n).okCode hc
    intro m ρ0 w0 w a R h1 h2 ⟨ρ, r, t⟩ h4
    have := h (by rw [hq]; exact hp) m ρ w a R (fun l hl => Nat.lt_of_lt_of_le (h1 l hl) hn) (r.like l1 rfl rfl) fun ρ' w' a' r' t' => h4 _ s2 w' a' ⟨rfl, rfl⟩ (Pic.view h2 v ⟨ρ', r', t.trans (l1.thenTra t')⟩)
    rwa [fenceOf_ext h1 t.ext] at this

theorem Step.loop {P : Program} {rd : Option Nat} {s0 : St} {c : Code} {Q : Exit → St → Prop} (I : Nat → St → Prop)
    (h : ∀ k s, I k s → Step P rd s0 c s (fun e s' => (e = .normal ∧ ∃ k', k' < k ∧ I k' s') ∨ (e ≠ .normal ∧ Q e s'))) : ∀ k s, I k s → Step P rd s0 (.loop c) s Q := by
  intro k s hI n ρ0 w0 w a R h1 h2 h3 h4
  have key : ∀ (m k : Nat) (s : St) (w : World) (a : Act), k < m → I k s → Pic s0 ρ0 w0 s w a → Code.roundsIn (fenceOf rd ρ0) n P c R m a w := by
    intro m
    induction m with
    | zero => intro k s w a hk; omega
    | succ m ih =>
      intro k s w a hk hI hp
      rw [roundsIn_succ]
      refine h k s hI n ρ0 w0 w a _ h1 h2 hp fun e s' w' a' hq hp' => ?_
      rcases hq with ⟨rfl, k', hk', hI'⟩ | ⟨hne, hQ⟩
      · exact ih k' s' w' a' (by omega) hI' hp'
      · have := h4 e s' w' a' hQ hp'
        cases e <;> first | exact this | exact absurd rfl hne
  exact wpIn_loop_rounds (k + 1) (key (k + 1) k s w a (Nat.lt_succ_self k) hI h3)

theorem CodeOk.of_step {P : Program} {rd : Option Nat} {c : Code} {s s1 : St} {e : Exit} (h : Step P rd s c s (fun e' s' => e' = e ∧ s' = s1)) : CodeOk P rd c s e s1 := by
  intro _ n ρ w a Q hrd hr hq
  refine h n ρ w w a Q hrd hr.hs ⟨ρ, hr, Tra.refl _ _ _⟩ ?_
  rintro e' s' w' a' ⟨rfl, rfl⟩ ⟨ρ', r', t'⟩
  exact hq ρ' w' a' r' t'

/-! ### what is asked for later -/
/-- loops and calls whose outcome is told beside: that it is so is asked for -/
def Given.asks (K : Given) (L : FuncId → Code → St → Option (Exit × St)) (C : FuncId → List Value → St → Option (Value × St)) : Program → Given := fun P =>
  { call := fun f args s => match C f args s with
      | some (v, s1) => some (v, { s1 with obl := s.obl ∧ CallOk P f args s.bare v s1.bare, orc := s.orc })
      | none => K.call f args s
    loop := fun f c s => match L f c s with
      | some (e, s1) => some (e, { s1 with obl := s.obl ∧ ∀ rd, CodeOk P rd (.loop c) s.bare e s1.bare, orc := s.orc })
      | none => K.loop f c s
    fits := K.fits }

theorem GivenOk.asks {P : Program} {K : Given} (h : GivenOk P K) (L : FuncId → Code → St → Option (Exit × St)) (C : FuncId → List Value → St → Option (Value × St)) : GivenOk P (Given.asks K L C P) := by
  refine ⟨fun {f args s s' v} hc => ?_, fun {f args s s' v} hc => ?_, fun {f c s s' e} hc => ?_, fun {f c s s' e} hc => ?_⟩
  · simp only [Given.asks] at hc
    split at hc
    · simp only [Option.some.injEq, Prod.mk.injEq] at hc; obtain ⟨_, rfl⟩ := hc; exact fun k => k.1
    · exact h.callObl hc
  · simp only [Given.asks] at hc
    split at hc
    · rename_i v1 s1 _
      simp only [Option.some.injEq, Prod.mk.injEq] at hc; obtain ⟨rfl, rfl⟩ := hc
      intro ho n ρ w args' hs ha
      have l1 : Like s1.bare { s1 with obl := s.obl ∧ CallOk P f args s.bare v1 s1.bare, orc := s.orc } := ⟨rfl, rfl, rfl, rfl, rfl⟩
      refine (ho.2 trivial n ρ w args' (s.bare_like.holds hs) (by rw [s.bare_like.dm]; exact ha)).mono ?_
      rintro e w' ⟨v', ρ', rfl, g1, g2, g3⟩
      exact ⟨v', ρ', rfl, by rw [l1.dm]; exact g1, l1.holds g2, (s.bare_like.thenTra g3).like l1⟩
    · exact h.call hc
  · simp only [Given.asks] at hc
    split at hc
    · simp only [Option.some.injEq, Prod.mk.injEq] at hc; obtain ⟨_, rfl⟩ := hc; exact fun k => k.1
    · exact h.loopObl hc
  · simp only [Given.asks] at hc
    split at hc
    · rename_i e1 s1 _
      simp only [Option.some.injEq, Prod.mk.injEq] at hc; obtain ⟨rfl, rfl⟩ := hc
      intro rd ho n ρ w a Q hrd hr hq
      have l1 : Like s1.bare { s1 with obl := s.obl ∧ ∀ rd, CodeOk P rd (.loop c) s.bare e1 s1.bare, orc := s.orc } := ⟨rfl, rfl, rfl, rfl, rfl⟩
      refine ho.2 rd trivial n ρ w a Q hrd (hr.like s.bare_like rfl rfl) fun ρ' w' a' r' t' => ?_
      exact hq ρ' w' a' (r'.like l1 rfl rfl) ((s.bare_like.thenTra t').like l1)
    · exact h.loop hc

end Go.Cln
