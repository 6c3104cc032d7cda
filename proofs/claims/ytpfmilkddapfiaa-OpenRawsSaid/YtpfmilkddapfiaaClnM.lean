/- A determinate reading of Go's code: maps. -/
import Derived.Test.YtpfmilkddapfiaaClnP10
namespace Go.Cln
set_option linter.unusedVariables false
set_option linter.unusedSimpArgs false
set_option linter.deprecated false
theorem findN_like {kd : TypeDesc} {k : Value} : ∀ {es : List MapEntry} {i : Nat} {s s' : St} {r : Option Nat}, findN kd k es i s = some (r, s') → Like s s' ∧ s'.tmps = s.tmps ∧ s'.defers = s.defers ∧ (s'.obl → s.obl)
  | [], i, s, s', r, h => by simp [findN] at h; obtain ⟨_, rfl⟩ := h; exact ⟨.refl _, rfl, rfl, id⟩
  | e :: es, i, s, s', r, h => by
    simp only [findN] at h
    split at h
    · rw [bind_some] at h
      obtain ⟨⟨b1, s1⟩, hb, h⟩ := h
      obtain ⟨k1, k2, k3, k4⟩ := St.branch_spec hb
      split at h
      · simp at h; obtain ⟨_, rfl⟩ := h; exact ⟨k1, k2, k3, fun h => (k4 h).1⟩
      · obtain ⟨j1, j2, j3, j4⟩ := findN_like h
        exact ⟨k1.trans j1, j2.trans k2, j3.trans k3, fun h => (k4 (j4 h)).1⟩
    · simp at h
theorem findA_like {P : Program} {kt : TypeId} {k : Value} : ∀ {es : List MapEntry} {i : Nat} {s s' : St} {r : Option Nat}, findA P kt k es i s = some (r, s') → Like s s' ∧ s'.tmps = s.tmps ∧ s'.defers = s.defers ∧ (s'.obl → s.obl)
  | [], i, s, s', r, h => by simp [findA] at h; obtain ⟨_, rfl⟩ := h; exact ⟨.refl _, rfl, rfl, id⟩
  | e :: es, i, s, s', r, h => by
    simp only [findA] at h
    split at h
    · rw [bind_some] at h
      obtain ⟨⟨b1, s1⟩, hb, h⟩ := h
      obtain ⟨k1, k2, k3, k4⟩ := St.branch_spec hb
      split at h
      · simp at h; obtain ⟨_, rfl⟩ := h; exact ⟨k1, k2, k3, fun h => (k4 h).1⟩
      · obtain ⟨j1, j2, j3, j4⟩ := findA_like h
        exact ⟨k1.trans j1, j2.trans k2, j3.trans k3, fun h => (k4 (j4 h)).1⟩
    · simp at h
theorem findC_like {P : Program} {kt : TypeId} {k : Value} {es : List MapEntry} {s s' : St} {r : Option Nat} (h : findC P kt k es s = some (r, s')) : Like s s' ∧ s'.tmps = s.tmps ∧ s'.defers = s.defers ∧ (s'.obl → s.obl) := by
  unfold findC at h
  split at h
  · split at h
    · exact findN_like h
    · split at h
      · simp at h; obtain ⟨_, rfl⟩ := h; exact ⟨.refl _, rfl, rfl, id⟩
      · split at h
        · exact findA_like h
        · simp at h
  · simp at h
theorem EL.nil {N : Nat → Prop} {ρ : Nat → PB} : EL N ρ [] [] := ⟨rfl, fun i e e' h => by simp at h⟩
theorem EL.inv_nil {N : Nat → Prop} {ρ : Nat → PB} {l : List MapEntry} (h : EL N ρ [] l) : l = [] := List.eq_nil_of_length_eq_zero (by simpa using h.1)
theorem EL.inv_cons {N : Nat → Prop} {ρ : Nat → PB} {e : MapEntry} {l l' : List MapEntry} (h : EL N ρ (e :: l) l') : ∃ e' r, l' = e' :: r ∧ e'.key = e.key ∧ e'.born = e.born ∧ VR N ρ e.val e'.val ∧ EL N ρ l r := by
  cases l' with
  | nil => simp [EL] at h
  | cons e' r =>
    obtain ⟨h1, h2⟩ := h
    obtain ⟨a, b, c⟩ := h2 0 e e' rfl rfl
    exact ⟨e', r, rfl, a, b, c, by simpa using h1, fun i x y hx hy => h2 (i + 1) x y (by simpa using hx) (by simpa using hy)⟩
theorem EL.get {N : Nat → Prop} {ρ : Nat → PB} {l l' : List MapEntry} (h : EL N ρ l l') {i : Nat} {e : MapEntry} (he : l[i]? = some e) : ∃ e', l'[i]? = some e' ∧ e'.key = e.key ∧ e'.born = e.born ∧ VR N ρ e.val e'.val := by
  have hi : i < l.length := (List.getElem?_eq_some_iff.1 he).1
  have hi' : i < l'.length := h.1.symm ▸ hi
  exact ⟨l'[i], by simp [hi'], h.2 i e _ he (by simp [hi'])⟩
theorem EL.set {N : Nat → Prop} {ρ : Nat → PB} {l l' : List MapEntry} (h : EL N ρ l l') (j : Nat) {e e' : MapEntry} (h1 : e'.key = e.key) (h2 : e'.born = e.born) (h3 : VR N ρ e.val e'.val) : EL N ρ (l.set j e) (l'.set j e') := by
  refine ⟨by simp [h.1], fun i x y hx hy => ?_⟩
  rw [List.getElem?_set] at hx hy
  by_cases hij : j = i
  · subst hij
    simp only [if_true] at hx hy
    split at hx <;> split at hy <;> simp_all
  · rw [if_neg hij] at hx hy; exact h.2 i x y hx hy
theorem EL.push {N : Nat → Prop} {ρ : Nat → PB} {l l' : List MapEntry} (h : EL N ρ l l') {e e' : MapEntry} (h1 : e'.key = e.key) (h2 : e'.born = e.born) (h3 : VR N ρ e.val e'.val) : EL N ρ (l ++ [e]) (l' ++ [e']) := by
  refine ⟨by simp [h.1], fun i x y hx hy => ?_⟩
  rw [List.getElem?_append] at hx hy
  rw [h.1] at hy
  by_cases hi : i < l.length
  · rw [if_pos hi] at hx hy; exact h.2 i x y hx hy
  · rw [if_neg hi] at hx hy
    cases hk : i - l.length with
    | zero => rw [hk] at hx hy; simp at hx hy; subst hx; subst hy; exact ⟨h1, h2, h3⟩
    | succ n => rw [hk] at hx; simp at hx
theorem EL.erase {N : Nat → Prop} {ρ : Nat → PB} {l l' : List MapEntry} (h : EL N ρ l l') (j : Nat) : EL N ρ (l.eraseIdx j) (l'.eraseIdx j) := by
  refine ⟨by simp [List.length_eraseIdx, h.1], fun i x y hx hy => ?_⟩
  rw [List.getElem?_eraseIdx] at hx hy
  split at hx <;> rename_i hij
  · rw [if_pos hij] at hy; exact h.2 i x y hx hy
  · rw [if_neg hij] at hy; exact h.2 _ x y hx hy
theorem findN_sound {N : Nat → Prop} {ρ : Nat → PB} {kd : TypeDesc} {k : Value} : ∀ {es es' : List MapEntry} {i : Nat} {s s' : St} {r : Option Nat}, EL N ρ es es' → findN kd k es i s = some (r, s') → s'.obl →
    ∃ r', Instr.findNow kd k es' i = some r' ∧ r'.map (·.1) = r ∧ ∀ x, r' = some x → i ≤ x.1 ∧ ∃ e', es'[x.1 - i]? = some e' ∧ e'.val = x.2
  | [], es', i, s, s', r, hE, h, ho => by
    simp [findN] at h; obtain ⟨rfl, rfl⟩ := h
    rw [hE.inv_nil]; exact ⟨none, rfl, rfl, fun x hx => by cases hx⟩
  | e :: es, es', i, s, s', r, hE, h, ho => by
    obtain ⟨e', r1, rfl, k1, k2, k3, hE'⟩ := hE.inv_cons
    simp only [findN] at h
    split at h
    · rename_i b hb
      rw [bind_some] at h
      obtain ⟨⟨b1, s1⟩, hbr, h⟩ := h
      have hsp := (St.branch_spec hbr).2.2.2
      simp only [Instr.findNow]
      split at h
      · rename_i hb1
        simp at h hb1; obtain ⟨rfl, rfl⟩ := h
        have := (hsp ho).2
        subst hb1; subst this
        rw [k1, hb]
        exact ⟨_, rfl, rfl, fun x hx => by cases hx; exact ⟨Nat.le_refl _, e', by simp, rfl⟩⟩
      · rename_i hb1
        have hb1 : b1 = false := by simpa using hb1
        subst hb1
        have := (hsp ((findN_like h).2.2.2 ho)).2
        subst this
        rw [k1, hb]
        obtain ⟨r', g1, g2, g3⟩ := findN_sound hE' h ho
        refine ⟨r', g1, g2, fun x hx => ?_⟩
        obtain ⟨a, e2, b, c⟩ := g3 x hx
        refine ⟨by omega, e2, ?_, c⟩
        have : x.1 - i = (x.1 - (i + 1)) + 1 := by omega
        rw [this]; simpa using b
    · simp at h
theorem findA_sound {N : Nat → Prop} {ρ : Nat → PB} {P : Program} {kt : TypeId} {k : Value} : ∀ {es es' : List MapEntry} {i : Nat} {s s' : St} {r : Option Nat}, EL N ρ es es' → findA P kt k es i s = some (r, s') → s'.obl →
    ∃ r', (∀ w, (Instr.findAsking kt k es' i).run P w = .ok r' w) ∧ r'.map (·.1) = r ∧ ∀ x, r' = some x → i ≤ x.1 ∧ ∃ e', es'[x.1 - i]? = some e' ∧ e'.val = x.2
  | [], es', i, s, s', r, hE, h, ho => by
    simp [findA] at h; obtain ⟨rfl, rfl⟩ := h
    rw [hE.inv_nil]; exact ⟨none, fun w => rfl, rfl, fun x hx => by cases hx⟩
  | e :: es, es', i, s, s', r, hE, h, ho => by
    obtain ⟨e', r1, rfl, k1, k2, k3, hE'⟩ := hE.inv_cons
    simp only [findA] at h
    split at h
    · rename_i b hb
      rw [bind_some] at h
      obtain ⟨⟨b1, s1⟩, hbr, h⟩ := h
      have hsp := (St.branch_spec hbr).2.2.2
      rw [← k1] at hb
      have hq := quiet_run hb
      split at h
      · rename_i hb1
        simp at h hb1; obtain ⟨rfl, rfl⟩ := h
        have := (hsp ho).2
        subst hb1; subst this
        exact ⟨some (i, e'.val), fun w => by simp [Instr.findAsking, Sem.run_bind, hq], rfl, fun x hx => by cases hx; exact ⟨Nat.le_refl _, e', by simp, rfl⟩⟩
      · rename_i hb1
        have hb1 : b1 = false := by simpa using hb1
        subst hb1
        have := (hsp ((findA_like h).2.2.2 ho)).2
        subst this
        obtain ⟨r', g1, g2, g3⟩ := findA_sound hE' h ho
        refine ⟨r', fun w => by simp [Instr.findAsking, Sem.run_bind, hq, g1], g2, fun x hx => ?_⟩
        obtain ⟨a, e2, b, c⟩ := g3 x hx
        refine ⟨by omega, e2, ?_, c⟩
        have : x.1 - i = (x.1 - (i + 1)) + 1 := by omega
        rw [this]; simpa using b
    · simp at h
theorem findC_sound {N : Nat → Prop} {ρ : Nat → PB} {P : Program} {kt : TypeId} {k : Value} {es es' : List MapEntry} {s s' : St} {r : Option Nat} (hE : EL N ρ es es') (h : findC P kt k es s = some (r, s')) (ho : s'.obl) :
    ∃ r', (∀ w, (Instr.findKey kt k es').run P w = .ok r' w) ∧ r'.map (·.1) = r ∧ ∀ x, r' = some x → ∃ e', es'[x.1]? = some e' ∧ e'.val = x.2 := by
  unfold findC at h
  split at h
  · rename_i kd hkd
    split at h
    · obtain ⟨r', g1, g2, g3⟩ := findN_sound hE h ho
      exact ⟨r', fun w => by simp [Instr.findKey, Sem.run_bind, run_underlying hkd, g1], g2, fun x hx => by simpa using (g3 x hx).2⟩
    · split at h
      · simp at h; obtain ⟨rfl, rfl⟩ := h
        rw [hE.inv_nil]
        exact ⟨none, fun w => by simp [Instr.findKey, Sem.run_bind, run_underlying hkd, Instr.findNow], rfl, fun x hx => by cases hx⟩
      · rename_i e es0
        split at h
        · rename_i hn
          obtain ⟨e', r1, rfl, k1, _, _, _⟩ := hE.inv_cons
          obtain ⟨r', g1, g2, g3⟩ := findA_sound hE h ho
          refine ⟨r', fun w => ?_, g2, fun x hx => by simpa using (g3 x hx).2⟩
          have : Instr.findNow kd k (e' :: r1) 0 = none := by
            simp only [Instr.findNow, k1]
            rw [Option.isNone_iff_eq_none.1 hn]
          simp [Instr.findKey, Sem.run_bind, run_underlying hkd, this, g1]
        · simp at h
  · simp at h
theorem keyOk_run {P : Program} {b : Bool} {kt : TypeId} {k : Value} (h : keyOk P b kt k = true) : flat1 k = true ∧ ∀ w, (Instr.checkKey b 10000 kt k).run P w = .ok () w := by
  simp only [keyOk, Bool.and_eq_true] at h
  obtain ⟨h1, h2⟩ := h
  cases hq : quiet P (Instr.checkKey b 10000 kt k) with
  | none => rw [hq] at h2; simp at h2
  | some u => exact ⟨h1, quiet_run hq⟩
theorem Hs.mapOb {s : St} {ρ : Nat → PB} {w : World} (hs : Hs s ρ w) {b : Nat} {es : List MapEntry} {clock : Nat} (h : s.heap.get b = some (.map es clock)) : Dm s b ∧ ∃ es', w.heap[(ρ b).blk]? = some (.map es' clock) ∧ EL (Dm s) ρ es es'.toList := hs.ob b _ h
theorem run_getMap {P : Program} {w : World} {l : Nat} {es : Array MapEntry} {c : Nat} (h : w.heap[l]? = some (.map es c)) : (getObj l).run P w = .ok (.map es c) w := by
  simp [getObj, Sem.run, h]
theorem run_setMap {P : Program} {w : World} {l : Nat} {es : Array MapEntry} {c : Nat} {o' : Obj} (h : w.heap[l]? = some (.map es c)) : (setObj l o').run P w = .ok () { w with heap := w.heap.setIfInBounds l o' } := by
  simp [setObj, Sem.run, h]
theorem VR.withOk {N : Nat → Prop} {ρ : Nat → PB} {v v' : Value} (h : VR N ρ v v') (c b : Bool) : VR N ρ (withOk c v b) (withOk c v' b) := by
  cases c
  · exact h
  · exact .tup rfl (VL.cons h (VL.cons (.same rfl) VL.nil)).2
theorem doLookup_like {P : Program} {s s' : St} {xt : TypeId} {x k v : Value} {c : Bool} (h : doLookup P s xt x k c = some (v, s')) : Like s s' ∧ s'.tmps = s.tmps ∧ s'.defers = s.defers ∧ (s'.obl → s.obl) := by
  unfold doLookup at h
  split at h
  · split at h
    · rw [bind_some] at h
      obtain ⟨⟨r, s1⟩, hf, h⟩ := h
      have key := findC_like hf
      simp only at h
      split at h <;> (rw [bind_some] at h; obtain ⟨_, _, h⟩ := h; simp at h; obtain ⟨_, rfl⟩ := h; exact key)
    · simp at h
  · simp at h
theorem entries_run {P : Program} {s : St} {x x' : Value} {es : List MapEntry} {ρ : Nat → PB} {w : World} (h : entries s x = some es) (hs : Hs s ρ w) (hx : VR (Dm s) ρ x x') :
    (x = .map none ∧ x' = .map none ∧ es = []) ∨ ∃ b es' clock, x = .map (some b) ∧ x' = .map (some (ρ b).blk) ∧ w.heap[(ρ b).blk]? = some (.map es' clock) ∧ EL (Dm s) ρ es es'.toList := by
  unfold entries at h
  split at h
  · simp at h; subst h; exact .inl ⟨rfl, hx.eq_flat0 rfl, rfl⟩
  · rename_i b
    split at h
    · rename_i es0 clock hb
      simp at h; subst h
      obtain ⟨_, es', h1, h2⟩ := hs.mapOb hb
      cases hx with
      | same h => simp [flat0] at h
      | mapv hN => exact .inr ⟨b, es', clock, rfl, rfl, h1, h2⟩
    · simp at h
  · simp at h
theorem EL.empty {N : Nat → Prop} {ρ : Nat → PB} {l : List MapEntry} {l' : Array MapEntry} (h : EL N ρ l l'.toList) : l'.isEmpty = l.isEmpty := by
  have := h.1
  cases l <;> simp_all [Array.isEmpty]
theorem doLookup_sound {P : Program} (hz : ∀ t z, zeroOf P t = some z → Dflat z) {s s' : St} {xt : TypeId} {x x' k k' v : Value} {c : Bool} {ρ : Nat → PB} {w : World} (h : doLookup P s xt x k c = some (v, s')) (ho : s'.obl) (hs : Hs s ρ w)
    (hx : VR (Dm s) ρ x x') (hk : VR (Dm s) ρ k k') : ∃ v', (Instr.lookup xt x' k' c).run P w = .ok v' w ∧ VR (Dm s) ρ v v' := by
  unfold doLookup at h
  split at h
  · rename_i kt et es hu he
    split at h
    · rename_i hko
      obtain ⟨hkf, hck⟩ := keyOk_run hko
      have := hk.eq_flat1 hkf
      subst this
      rw [bind_some] at h
      obtain ⟨⟨r, s1⟩, hf, h⟩ := h
      simp only at h
      obtain ⟨es', hE, hx'⟩ : ∃ es' : Array MapEntry, EL (Dm s) ρ es es'.toList ∧ ((x' = .map none ∧ es' = #[]) ∨ ∃ r clock, x' = .map (some r) ∧ w.heap[r]? = some (.map es' clock)) := by
        rcases entries_run (P := P) he hs hx with ⟨_, hx1, rfl⟩ | ⟨b, es', clock, _, hx1, h1, h2⟩
        · exact ⟨#[], EL.nil, .inl ⟨hx1, rfl⟩⟩
        · exact ⟨es', h2, .inr ⟨_, clock, hx1, h1⟩⟩
      have hem := hE.empty
      clear hx
      split at h
      · rename_i j
        rw [bind_some] at h
        obtain ⟨e, hej, h⟩ := h
        simp at h; obtain ⟨rfl, rfl⟩ := h
        obtain ⟨r', g1, g2, g3⟩ := findC_sound hE hf ho
        obtain ⟨e', a1, a2, a3, a4⟩ := hE.get hej
        cases r' with
        | none => simp at g2
        | some y =>
          obtain ⟨e2, b1, b2⟩ := g3 y rfl
          simp at g2; subst g2
          rw [a1] at b1; cases b1
          refine ⟨withOk c e'.val true, ?_, a4.withOk c true⟩
          obtain ⟨y1, y2⟩ := y
          simp only at b2; subst b2
          rw [← hem] at hck
          rcases hx' with ⟨rfl, rfl⟩ | ⟨r, clock, rfl, h1⟩
          · simp only [Instr.lookup, Sem.run_bind, run_underlying hu, Result.andThen_ok, hck, g1, Sem.run_pure]
            rfl
          · simp only [Instr.lookup, Sem.run_bind, run_underlying hu, Result.andThen_ok, run_getMap h1, hck, g1, Sem.run_pure]
            rfl
      · rw [bind_some] at h
        obtain ⟨z, hzz, h⟩ := h
        simp at h; obtain ⟨rfl, rfl⟩ := h
        obtain ⟨r', g1, g2, g3⟩ := findC_sound hE hf ho
        cases r' with
        | some y => simp at g2
        | none =>
          refine ⟨withOk c z false, ?_, (VR.of_dflat (hz _ _ hzz)).withOk c false⟩
          rw [← hem] at hck
          rcases hx' with ⟨rfl, rfl⟩ | ⟨r, clock, rfl, h1⟩
          · simp only [Instr.lookup, Sem.run_bind, run_underlying hu, Result.andThen_ok, hck, g1, run_zero hzz, Sem.run_pure]
            rfl
          · simp only [Instr.lookup, Sem.run_bind, run_underlying hu, Result.andThen_ok, run_getMap h1, hck, g1, run_zero hzz, Sem.run_pure]
            rfl
    · simp at h
  · simp at h
theorem mapAt_some {s : St} {m : Value} {b : Nat} {es : List MapEntry} {clock : Nat} (h : mapAt s m = some (b, es, clock)) : m = .map (some b) ∧ s.may b = true ∧ s.heap.get b = some (.map es clock) := by
  unfold mapAt at h
  split at h
  · split at h
    · split at h
      · rename_i hm _ _ _ hb; simp at h; obtain ⟨rfl, rfl, rfl⟩ := h; exact ⟨rfl, hm, hb⟩
      · simp at h
    · simp at h
  · simp at h
theorem VR.map_inv {N : Nat → Prop} {ρ : Nat → PB} {b : Nat} {v : Value} (h : VR N ρ (.map (some b)) v) : v = .map (some (ρ b).blk) := by
  cases h with
  | same h => simp [flat0] at h
  | mapv _ => rfl
theorem map_set {s s' : St} {b : Nat} {es es2 : List MapEntry} {clock clock2 : Nat} {ρ : Nat → PB} {w : World} {es' es2' : Array MapEntry} (h : s.setOb b (some (.map es2 clock2)) = some s') (hs : Hs s ρ w) (hl : s.heap.get b = some (.map es clock)) (hm : s.may b = true)
    (hr : w.heap[(ρ b).blk]? = some (.map es' clock)) (h2 : EL (Dm s) ρ es2 es2'.toList) : Hs s' ρ { w with heap := w.heap.setIfInBounds (ρ b).blk (.map es2' clock2) } ∧ Tra s s' ρ ρ w { w with heap := w.heap.setIfInBounds (ρ b).blk (.map es2' clock2) } := by
  have hlt : (ρ b).blk < w.heap.size := by
    rcases Nat.lt_or_ge (ρ b).blk w.heap.size with h | h
    · exact h
    · simp [Array.getElem?_eq_none h] at hr
  refine set_sound h hs hl hm rfl rfl rfl (by simp) (fun k hk => by simp [Array.getElem?_setIfInBounds]; intro e; exact absurd e.symm hk) ⟨es2', by simp [hlt], h2⟩
theorem run_stays {P : Program} {old new : Value} (h : Instr.sameBits 10000 old new = true) (w : World) : (Instr.keyThatStays old new).run P w = .ok new w := by
  simp [Instr.keyThatStays, h]
theorem modify_set {es' : Array MapEntry} {j : Nat} {e' : MapEntry} {f : MapEntry → MapEntry} (h : es'.toList[j]? = some e') : (es'.modify j f).toList = es'.toList.set j (f e') := by
  rw [Array.toList_modify, List.modify_eq_set, h]; rfl
theorem doMapUpdate_sound {P : Program} {s s' : St} {mt : TypeId} {m m' k k' x x' v : Value} {ρ : Nat → PB} {w : World} (h : doMapUpdate P s mt m k x = some (v, s')) (ho : s'.obl) (hs : Hs s ρ w)
    (hm : VR (Dm s) ρ m m') (hk : VR (Dm s) ρ k k') (hx : VR (Dm s) ρ x x') : v = undef ∧ ∃ w', (Instr.mapUpdate mt m' k' x').run P w = .ok () w' ∧ Hs s' ρ w' ∧ Tra s s' ρ ρ w w' := by
  unfold doMapUpdate at h
  split at h
  · rename_i kt et b es clock hu he
    obtain ⟨rfl, hmay, hb⟩ := mapAt_some he
    have := hm.map_inv; subst this
    split at h
    · rename_i hko
      obtain ⟨hkf, hck⟩ := keyOk_run hko
      have := hk.eq_flat1 hkf
      subst this
      obtain ⟨_, es', hw, hE⟩ := hs.mapOb hb
      rw [bind_some] at h
      obtain ⟨⟨r, s1⟩, hf, h⟩ := h
      obtain ⟨l1, _, _, _⟩ := findC_like hf
      simp only at h
      split at h
      · rename_i j
        rw [bind_some] at h; obtain ⟨e, hej, h⟩ := h
        rw [bind_some] at h; obtain ⟨s2, hn, h⟩ := h
        rw [bind_some] at h; obtain ⟨s3, hset, h⟩ := h
        simp at h; obtain ⟨rfl, rfl⟩ := h
        obtain ⟨l2, _, _, l3⟩ := St.need_spec hn
        have ho2 := l3 ((St.setOb_spec hset).2.2.2.1 ▸ ho)
        obtain ⟨r', g1, g2, g3⟩ := findC_sound hE hf ho2.1
        obtain ⟨e', a1, a2, a3, a4⟩ := hE.get hej
        cases r' with
        | none => simp at g2
        | some y =>
          simp at g2; subst g2
          have l4 := l1.trans l2
          have hb2 : s2.heap.get b = some (.map es clock) := by rw [l4.heap]; exact hb
          have hmay2 : s2.may b = true := by rw [may_of l4.roB l4.ro]; exact hmay
          have hE2 : EL (Dm s2) ρ (es.set y.1 { e with key := k', val := x }) (es'.modify y.1 fun e => { e with key := k', val := x' }).toList := by
            rw [l4.dm, modify_set a1]
            exact hE.set _ rfl a3 hx
          obtain ⟨q1, q2⟩ := map_set hset (l4.holds hs) hb2 hmay2 hw hE2
          refine ⟨rfl, _, ?_, q1, l4.thenTra q2⟩
          have hkey : ((es'[y.1]?).map (·.key)).getD k' = e.key := by
            rw [← Array.getElem?_toList, a1]; exact a2
          simp only [Instr.mapUpdate, Sem.run_bind, run_underlying hu, Result.andThen_ok, run_getMap hw, hck, g1, hkey, run_stays ho2.2, run_setMap hw]
      · rw [bind_some] at h; obtain ⟨s3, hset, h⟩ := h
        simp at h; obtain ⟨rfl, rfl⟩ := h
        obtain ⟨r', g1, g2, g3⟩ := findC_sound hE hf ((St.setOb_spec hset).2.2.2.1 ▸ ho)
        cases r' with
        | some y => simp at g2
        | none =>
          have hb2 : s1.heap.get b = some (.map es clock) := by rw [l1.heap]; exact hb
          have hmay2 : s1.may b = true := by rw [may_of l1.roB l1.ro]; exact hmay
          have hE2 : EL (Dm s1) ρ (es ++ [{ key := k', val := x, born := clock }]) (es'.push { key := k', val := x', born := clock }).toList := by
            rw [l1.dm, Array.toList_push]
            exact hE.push rfl rfl hx
          obtain ⟨q1, q2⟩ := map_set hset (l1.holds hs) hb2 hmay2 hw hE2
          refine ⟨rfl, _, ?_, q1, l1.thenTra q2⟩
          simp only [Instr.mapUpdate, Sem.run_bind, run_underlying hu, Result.andThen_ok, run_getMap hw, hck, g1, run_setMap hw]
    · simp at h
  · simp at h
theorem doMapEntry_sound {P : Program} (hz : ∀ t z, zeroOf P t = some z → Dflat z) {s s' : St} {mt : TypeId} {m m' k k' v : Value} {ρ : Nat → PB} {w : World} (h : doMapEntry P s mt m k = some (v, s')) (ho : s'.obl) (hs : Hs s ρ w)
    (hm : VR (Dm s) ρ m m') (hk : VR (Dm s) ρ k k') : ∃ v' w', (Instr.mapEntry mt m' k').run P w = .ok v' w' ∧ VR (Dm s') ρ v v' ∧ Hs s' ρ w' ∧ Tra s s' ρ ρ w w' := by
  unfold doMapEntry at h
  split at h
  · rename_i kt et b es clock hu he
    obtain ⟨rfl, hmay, hb⟩ := mapAt_some he
    have := hm.map_inv; subst this
    split at h
    · rename_i hko
      obtain ⟨hkf, hck⟩ := keyOk_run hko
      have := hk.eq_flat1 hkf
      subst this
      obtain ⟨_, es', hw, hE⟩ := hs.mapOb hb
      rw [bind_some] at h
      obtain ⟨⟨r, s1⟩, hf, h⟩ := h
      obtain ⟨l1, _, _, _⟩ := findC_like hf
      simp only at h
      split at h
      · rename_i j
        rw [bind_some] at h; obtain ⟨e, hej, h⟩ := h
        rw [bind_some] at h; obtain ⟨s2, hn, h⟩ := h
        rw [bind_some] at h; obtain ⟨s3, hset, h⟩ := h
        simp at h; obtain ⟨rfl, rfl⟩ := h
        obtain ⟨l2, _, _, l3⟩ := St.need_spec hn
        have ho2 := l3 ((St.setOb_spec hset).2.2.2.1 ▸ ho)
        obtain ⟨r', g1, g2, g3⟩ := findC_sound hE hf ho2.1
        obtain ⟨e', a1, a2, a3, a4⟩ := hE.get hej
        cases r' with
        | none => simp at g2
        | some y =>
          obtain ⟨e2, b1, b2⟩ := g3 y rfl
          simp at g2; subst g2
          rw [a1] at b1; cases b1
          have l4 := l1.trans l2
          have hb2 : s2.heap.get b = some (.map es clock) := by rw [l4.heap]; exact hb
          have hmay2 : s2.may b = true := by rw [may_of l4.roB l4.ro]; exact hmay
          have hE2 : EL (Dm s2) ρ (es.set y.1 { e with key := k' }) (es'.modify y.1 fun e => { e with key := k' }).toList := by
            rw [l4.dm, modify_set a1]
            exact hE.set _ rfl a3 a4
          obtain ⟨q1, q2⟩ := map_set hset (l4.holds hs) hb2 hmay2 hw hE2
          have hkey : ((es'[y.1]?).map (·.key)).getD k' = e.key := by
            rw [← Array.getElem?_toList, a1]; exact a2
          have hborn : ((es'[y.1]?).map (fun x => (x.born : Int))).getD 0 = e.born := by
            rw [← Array.getElem?_toList, a1]; exact congrArg Int.ofNat a3
          refine ⟨.tuple #[e'.val, goInt e.born], _, ?_, .tup rfl (VL.cons ((a4.mono (fun b hb => by rw [St.setOb_dm hset, l4.dm]; exact hb) (fun _ _ => rfl))) (VL.cons (.same rfl) VL.nil)).2, q1, l4.thenTra q2⟩
          simp only [Instr.mapEntry, Sem.run_bind, run_underlying hu, Result.andThen_ok, run_getMap hw, hck, g1, hkey, run_stays ho2.2, run_setMap hw, ← b2, Sem.run_pure]
          have hborn2 : (↑(((es'[y.1]?).map (·.born)).getD 0) : Int) = e.born := by
            rw [← Array.getElem?_toList, a1]; exact congrArg Int.ofNat a3
          first | rfl | (rw [hborn2]) | (simp only [hborn]) | (simp [hborn])
      · rw [bind_some] at h; obtain ⟨z, hzz, h⟩ := h
        rw [bind_some] at h; obtain ⟨s3, hset, h⟩ := h
        simp at h; obtain ⟨rfl, rfl⟩ := h
        obtain ⟨r', g1, g2, g3⟩ := findC_sound hE hf ((St.setOb_spec hset).2.2.2.1 ▸ ho)
        cases r' with
        | some y => simp at g2
        | none =>
          have hb2 : s1.heap.get b = some (.map es clock) := by rw [l1.heap]; exact hb
          have hmay2 : s1.may b = true := by rw [may_of l1.roB l1.ro]; exact hmay
          have hzr := fun N ρ => VR.of_dflat (N := N) (ρ := ρ) (hz _ _ hzz)
          have hE2 : EL (Dm s1) ρ (es ++ [{ key := k', val := z, born := clock }]) (es'.push { key := k', val := z, born := clock }).toList := by
            rw [l1.dm, Array.toList_push]
            exact hE.push rfl rfl (hzr _ _)
          obtain ⟨q1, q2⟩ := map_set hset (l1.holds hs) hb2 hmay2 hw hE2
          refine ⟨.tuple #[z, goInt clock], _, ?_, .tup rfl (VL.cons (hzr _ _) (VL.cons (.same rfl) VL.nil)).2, q1, l1.thenTra q2⟩
          simp only [Instr.mapEntry, Sem.run_bind, run_underlying hu, Result.andThen_ok, run_getMap hw, hck, g1, run_zero hzz, run_setMap hw, Sem.run_pure]
    · simp at h
  · simp at h
theorem bornAt_eq (n : Int) : ∀ (es es' : List MapEntry) (i : Nat), es'.length = es.length → (∀ (i : Nat) (e e' : MapEntry), es[i]? = some e → es'[i]? = some e' → e'.born = e.born) → bornAt n es i = (es'.findIdx? (fun e => (e.born : Int) == n)).map (· + i)
  | [], es', i, hl, h => by
    have : es' = [] := List.eq_nil_of_length_eq_zero (by simpa using hl)
    subst this; rfl
  | e :: es, [], i, hl, h => by simp at hl
  | e :: es, e' :: es', i, hl, h => by
    have h0 := h 0 e e' rfl rfl
    simp only [bornAt, List.findIdx?_cons, h0]
    split
    · simp
    · rw [bornAt_eq n es es' (i + 1) (by simpa using hl) (fun i x y hx hy => h (i + 1) x y (by simpa using hx) (by simpa using hy))]
      simp only [Option.map_map]
      congr 1; funext j; simp; omega
theorem doEntryStore_sound {P : Program} {s s' : St} {mt : TypeId} {m m' k k' x x' v : Value} {ρ : Nat → PB} {w : World} (h : doEntryStore s m k x = some (v, s')) (hs : Hs s ρ w)
    (hm : VR (Dm s) ρ m m') (hk : VR (Dm s) ρ k k') (hx : VR (Dm s) ρ x x') : v = undef ∧ ∃ w', (Instr.entryStore mt m' k' x').run P w = .ok () w' ∧ Hs s' ρ w' ∧ Tra s s' ρ ρ w w' := by
  unfold doEntryStore at h
  split at h
  · rename_i b es clock n he hn
    obtain ⟨rfl, hmay, hb⟩ := mapAt_some he
    have := hm.map_inv; subst this
    obtain ⟨kk, rfl⟩ := intVal_some hn
    have := hk.eq_flat0 rfl; subst this
    obtain ⟨_, es', hw, hE⟩ := hs.mapOb hb
    rw [bind_some] at h; obtain ⟨j, hj, h⟩ := h
    rw [bind_some] at h; obtain ⟨e, hej, h⟩ := h
    rw [bind_some] at h; obtain ⟨s3, hset, h⟩ := h
    simp at h; obtain ⟨rfl, rfl⟩ := h
    obtain ⟨e', a1, a2, a3, a4⟩ := hE.get hej
    rw [bornAt_eq n es es'.toList 0 hE.1 (fun i x y hx hy => (hE.2 i x y hx hy).2.1)] at hj
    have hj : es'.toList.findIdx? (fun e => (e.born : Int) == n) = some j := by
      cases hq : es'.toList.findIdx? (fun e => (e.born : Int) == n) with
      | none => rw [hq] at hj; simp at hj
      | some y => rw [hq] at hj; simp at hj; rw [hj]
    have hE2 : EL (Dm s) ρ (es.set j { e with val := x }) (es'.modify j fun e => { e with val := x' }).toList := by
      rw [modify_set a1]
      exact hE.set _ a2 a3 hx
    obtain ⟨q1, q2⟩ := map_set hset hs hb hmay hw hE2
    refine ⟨rfl, _, ?_, q1, q2⟩
    have hj2 : es'.findIdx? (fun e => (e.born : Int) == n) = some j := by obtain ⟨l⟩ := es'; rw [List.findIdx?_toArray]; exact hj
    have hint : (asIntOf (Value.int kk n)).run P w = .ok (kk, n) w := rfl
    simp only [Instr.entryStore, Sem.run_bind, run_getMap hw, Result.andThen_ok, asInt, hint, Sem.run_pure, hj2, run_setMap hw]
  · simp at h
theorem doDelete_sound {P : Program} {s s' : St} {ts : Array TypeId} {ty : TypeId} {vs vs' : List Value} {v : Value} {ρ : Nat → PB} {w : World} (h : doDelete P s ts vs = some (v, s')) (ho : s'.obl) (hs : Hs s ρ w)
    (hv : VL (Dm s) ρ vs vs') : ∃ v' w', (Builtin.delete_ ts ty vs'.toArray).run P w = .ok v' w' ∧ VR (Dm s') ρ v v' ∧ Hs s' ρ w' ∧ Tra s s' ρ ρ w w' := by
  unfold doDelete at h
  split at h
  · rename_i m k
    obtain ⟨m', r1, rfl, hm, hr⟩ := hv.inv_cons
    obtain ⟨k', r2, rfl, hk, hr2⟩ := hr.inv_cons
    rw [hr2.inv_nil]
    split at h
    · rename_i mt hmt
      split at h
      · rename_i kt et b es clock hu he
        obtain ⟨rfl, hmay, hb⟩ := mapAt_some he
        have := hm.map_inv; subst this
        split at h
        · rename_i hko
          obtain ⟨hkf, hck⟩ := keyOk_run hko
          have := hk.eq_flat1 hkf
          subst this
          obtain ⟨_, es', hw, hE⟩ := hs.mapOb hb
          have hem := hE.empty
          rw [bind_some] at h
          obtain ⟨⟨r, s1⟩, hf, h⟩ := h
          obtain ⟨l1, _, _, _⟩ := findC_like hf
          simp only at h
          have hlt : (ρ b).blk < w.heap.size := by
            rcases Nat.lt_or_ge (ρ b).blk w.heap.size with h | h
            · exact h
            · simp [Array.getElem?_eq_none h] at hw
          split at h
          · rename_i j
            rw [bind_some] at h; obtain ⟨s3, hset, h⟩ := h
            simp at h; obtain ⟨rfl, rfl⟩ := h
            obtain ⟨r', g1, g2, g3⟩ := findC_sound hE hf ((St.setOb_spec hset).2.2.2.1 ▸ ho)
            cases r' with
            | none => simp at g2
            | some y =>
              simp at g2; subst g2
              have hb2 : s1.heap.get b = some (.map es clock) := by rw [l1.heap]; exact hb
              have hmay2 : s1.may b = true := by rw [may_of l1.roB l1.ro]; exact hmay
              have hE2 : EL (Dm s1) ρ (es.eraseIdx y.1) (es'.eraseIdxIfInBounds y.1).toList := by
                rw [l1.dm, Array.toList_eraseIdxIfInBounds]
                exact hE.erase _
              obtain ⟨q1, q2⟩ := map_set hset (l1.holds hs) hb2 hmay2 hw hE2
              refine ⟨.tuple #[], _, ?_, .tup rfl VL.nil.2, q1, l1.thenTra q2⟩
              simp [Builtin.delete_, hmt, Sem.run_bind, run_underlying hu, run_getMap hw, hem, hck, g1, run_setMap hw]
          · simp at h; obtain ⟨rfl, rfl⟩ := h
            obtain ⟨r', g1, g2, g3⟩ := findC_sound hE hf ho
            cases r' with
            | some y => simp at g2
            | none =>
              have hsame : w.heap.setIfInBounds (ρ b).blk (.map es' clock) = w.heap := by
                apply Array.ext'
                simp only [Array.toList_setIfInBounds]
                apply List.ext_getElem?
                intro i
                rw [List.getElem?_set]
                by_cases hi : (ρ b).blk = i
                · subst hi
                  rw [if_pos rfl, if_pos (by simpa using hlt), ← hw, Array.getElem?_toList]
                · rw [if_neg hi]
              refine ⟨.tuple #[], w, ?_, .tup rfl VL.nil.2, l1.holds hs, l1.tra ρ w⟩
              simp [Builtin.delete_, hmt, Sem.run_bind, run_underlying hu, run_getMap hw, hem, hck, g1, run_setMap hw, hsame]
        · simp at h
      · simp at h
    · simp at h
  · simp at h
theorem doLenMap_sound {P : Program} {s s' : St} {ts : Array TypeId} {ty : TypeId} {vs vs' : List Value} {v : Value} {ρ : Nat → PB} {w : World} (ht : isMapT P ts = true) (h : doLenMap s vs = some (v, s')) (hs : Hs s ρ w)
    (hv : VL (Dm s) ρ vs vs') : s' = s ∧ (Builtin.len_ ts ty vs'.toArray).run P w = .ok v w ∧ flat0 v = true := by
  unfold doLenMap at h
  split at h
  · rename_i x
    obtain ⟨x', r, rfl, hx, hr⟩ := hv.inv_cons
    rw [hr.inv_nil]
    rw [bind_some] at h; obtain ⟨es, he, h⟩ := h
    simp at h; obtain ⟨rfl, rfl⟩ := h
    unfold isMapT at ht
    split at ht
    · rename_i t hts
      split at ht
      · rename_i kt et hu
        rcases entries_run (P := P) he hs hx with ⟨_, rfl, rfl⟩ | ⟨b, es', clock, _, rfl, h1, h2⟩
        · exact ⟨rfl, by simp [Builtin.len_, hts, Sem.run_bind, run_underlying hu], rfl⟩
        · refine ⟨rfl, ?_, rfl⟩
          have : es'.size = es.length := by simpa using h2.1
          simp [Builtin.len_, hts, Sem.run_bind, run_underlying hu, run_getMap h1, this]
      · simp at ht
    · simp at ht
  · simp at h
theorem doMakeMap_sound {P : Program} {s s' : St} {t : TypeId} {v : Value} {ρ : Nat → PB} {w : World} (h : doMakeMap s none = some (v, s')) (hs : Hs s ρ w) :
    ∃ v' w' ρ', (Instr.makeMap t none).run P w = .ok v' w' ∧ VR (Dm s') ρ' v v' ∧ Hs s' ρ' w' ∧ Tra s s' ρ ρ' w w' := by
  unfold doMakeMap at h
  simp only at h
  rw [bind_some] at h
  obtain ⟨⟨b, s1⟩, ha, h⟩ := h
  simp at h; obtain ⟨rfl, rfl⟩ := h
  have hdm := St.alloc_dm ha hs.hid
  obtain ⟨g1, g2⟩ := alloc_sound (o' := .map #[] 0) ⟨w.heap.size, 0, 0⟩ ha hs rfl ⟨#[], heap_alloc_new w _, EL.nil⟩
  obtain ⟨rfl, _⟩ := St.alloc_next ha
  refine ⟨.map (some w.heap.size), _, _, ?_, ?_, g1, g2⟩
  · rfl
  · have := VR.mapv (ρ := upd ρ s.next ⟨w.heap.size, 0, 0⟩) hdm.1
    rw [upd_at] at this
    exact this
theorem zeroCells_row {z : Array Value} (hz : z.toList ≠ []) (n : Nat) : (Builtin.zeroCells z n).toList = zeroRow z.toList n := by
  apply List.ext_getElem?
  intro j
  rw [zeroRow_get _ hz]
  have hs : 0 < z.size := by
    have := List.length_pos_iff.2 hz
    simpa using this
  by_cases hj : j < n * z.size
  · have hm : j % z.size < z.size := Nat.mod_lt _ hs
    simp [Builtin.zeroCells, hj, hm]
  · simp [Builtin.zeroCells, hj]
theorem run_append_zeroes {P : Program} {st xt ty elem : TypeId} {i : TypeInfo} {z : Value} {xk k : IntKind} {l : Int} {w : World}
    (hst : P.underlying st = some (.slice elem)) (hi : P.info? elem = some i) (hz : i.zero = some z) (hxt : P.underlying xt = some (.int xk)) (hne : i.size ≠ 0)
    (h1 : 1 ≤ IntKind.i64.wrap l) (hb1 : (IntKind.i64.wrap l).toNat * i.bytes ≤ mostBytes) (hb2 : (IntKind.i64.wrap l).toNat ≤ mostBytes) (argTypes : Array TypeId) (a0 : argTypes[0]? = some st) (a1 : argTypes[1]? = some xt) :
    ∃ c, (IntKind.i64.wrap l).toNat ≤ c ∧ (Builtin.append_ argTypes ty #[.slice none 0 0, .int k l]).run P w = .ok (.slice (some ⟨w.heap.size, 0, none⟩) (IntKind.i64.wrap l).toNat c) (({ w with drawn := w.drawn + 1 } : World).alloc (.cells (#[] ++ Builtin.zeroCells z.cells (IntKind.i64.wrap l).toNat ++ Builtin.zeroCells z.cells (c - (IntKind.i64.wrap l).toNat)) elem)) := by
  generalize hn : IntKind.i64.wrap l = m at *
  obtain ⟨n, rfl⟩ : ∃ n : Nat, m = (n : Int) := ⟨m.toNat, by omega⟩
  simp only [Int.toNat_natCast] at *
  have hcap : 0 < 0 + n := by omega
  refine ⟨(Question.appendCap (0 + n) 0 elem).cut (w.tape w.drawn (.appendCap (0 + n) 0 elem)), by simp [Question.cut], ?_⟩
  have hcond : ¬ (0 + n ≤ 0) := by omega
  have hk := nextcap_le hcap
  have hfit : ¬ (Builtin.nextslicecap (0 + n) 0 * i.bytes > 2 ^ 48) := by
    have h2 : Builtin.nextslicecap (0 + n) 0 * i.bytes ≤ 3 * (0 + n) * i.bytes := Nat.mul_le_mul_right _ hk
    have h3 : 3 * (0 + n) * i.bytes = 3 * (n * i.bytes) := by rw [Nat.zero_add, Nat.mul_assoc]
    unfold mostBytes at hb1; omega
  have hmax : ¬ (((0 + n : Nat) : Int) > IntKind.i64.max) := by
    have : IntKind.i64.max = 9223372036854775807 := by decide
    rw [this]; unfold mostBytes at hb2; omega
  have hneg : ¬ ((n : Int) < 0) := by omega
  have hbig : ¬ ((n : Int) * (i.bytes : Int) > 2 ^ 48) := by
    have : ((n * i.bytes : Nat) : Int) ≤ (mostBytes : Nat) := Int.ofNat_le.2 hb1
    rw [Int.natCast_mul] at this
    unfold mostBytes at this; omega
  have hnz : ¬ (n * i.size = 0) := by
    rw [Nat.mul_eq_zero]; omega
  have hint : (asInt (Value.int k l)).run P w = .ok l w := rfl
  have hold : ∀ w2 : World, (Builtin.firstCells i.size 0 (.slice none 0 0)).run P w2 = .ok #[] w2 := fun _ => rfl
  simp only [Builtin.append_, a0, a1, List.getElem?_toArray, List.getElem?_cons_zero, List.getElem?_cons_succ, Sem.run_bind, run_underlying hst, Result.andThen_ok, run_sizeOf (by simp [tsize, hi] : tsize P elem = some i.size), run_underlying hxt, Sem.run_pure]
  simp only [if_true, hint, hn, Sem.run_bind, Result.andThen_ok, hneg, if_false, run_typeInfo hi, hbig, Sem.run_pure, Int.toNat_natCast, hcond, hmax, true_or, and_true, hfit, Bool.not_true, Bool.false_eq_true, run_choose, Question.forced, run_askRoom]
  simp only [hold, hnz, if_false, Result.andThen_ok, Sem.run_bind, run_zero (by simp [zeroOf, hi, hz] : zeroOf P elem = some z), newRow, run_newObj, Sem.run_pure, World.alloc_eq, Nat.zero_add]
theorem doZeroes_sound {P : Program} {s s' : St} {ts : Array TypeId} {ty : TypeId} {vs vs' : List Value} {v : Value} {ρ : Nat → PB} {w : World} (hz : ∀ t z, zeroOf P t = some z → Dflat z) (h : doZeroes P s ts vs = some (v, s')) (hs : Hs s ρ w)
    (hv : VL (Dm s) ρ vs vs') : ∃ v' w' ρ', (Builtin.append_ ts ty vs'.toArray).run P w = .ok v' w' ∧ VR (Dm s') ρ' v v' ∧ Hs s' ρ' w' ∧ Tra s s' ρ ρ' w w' := by
  unfold doZeroes at h
  split at h
  · rename_i k l
    obtain ⟨b', r1, rfl, hb, hr⟩ := hv.inv_cons
    obtain ⟨x', r2, rfl, hx, hr2⟩ := hr.inv_cons
    rw [hr2.inv_nil]
    have := hb.eq_flat0 rfl; subst this
    have := hx.eq_flat0 rfl; subst this
    split at h
    · rename_i st xt h0 h1
      split at h
      · rename_i elem xk hst hxt
        split at h
        · rename_i i hi
          split at h
          · rename_i z hzz
            split at h
            · rename_i hc
              obtain ⟨c1, c2, c3, c4, c5⟩ := hc
              obtain ⟨c, f1, f2⟩ := run_append_zeroes (ty := ty) (k := k) (w := w) hst hi hzz hxt c2 c3 c4 c5 ts h0 h1
              have hne : z.cells.toList ≠ [] := fun e => by rw [e] at c1; exact c2 c1.symm
              have hzs : z.cells.size = i.size := by simpa using c1
              have hzr : ∀ v ∈ z.cells.toList, VR (Dm s) ρ v v := by
                have := (VR.of_dflat (N := Dm s) (ρ := ρ) (hz elem z (by simp [zeroOf, hi, hzz]))).cells
                intro v hvm
                obtain ⟨j, hj⟩ := List.mem_iff_getElem?.1 hvm
                exact this.2 j v v hj hj
              have hl : VL (Dm s) ρ (zeroRow z.cells.toList (IntKind.i64.wrap l).toNat) (Builtin.zeroCells z.cells (IntKind.i64.wrap l).toNat).toList := by
                rw [zeroCells_row hne]
                refine VL.of_forall fun v hvm => ?_
                obtain ⟨j, hj⟩ := List.mem_iff_getElem?.1 hvm
                rw [zeroRow_get _ hne] at hj
                split at hj
                · exact hzr v (List.mem_of_getElem? hj)
                · cases hj
              obtain ⟨ρ', g1, g2, g3⟩ := newRow_sound (rest := (Builtin.zeroCells z.cells (c - (IntKind.i64.wrap l).toNat)).toList) (k := c) h (hs.drew (w.drawn + 1)) hl f1
                (by simp only [Array.length_toList, zeroCells_size, hzs]; rw [← Nat.add_mul]; congr 1; omega)
              have ew : ((Builtin.zeroCells z.cells (IntKind.i64.wrap l).toNat).toList ++ (Builtin.zeroCells z.cells (c - (IntKind.i64.wrap l).toNat)).toList).toArray = #[] ++ Builtin.zeroCells z.cells (IntKind.i64.wrap l).toNat ++ Builtin.zeroCells z.cells (c - (IntKind.i64.wrap l).toNat) := by
                apply Array.ext'; simp
              rw [ew] at g2 g3
              exact ⟨_, _, ρ', f2, g1, g2, (Tra.drew s ρ w (w.drawn + 1)).trans g3⟩
            · simp at h
          · simp at h
        · simp at h
      · simp at h
    · simp at h
  · simp at h
theorem doZeroes_obl {P : Program} {s s' : St} {ts : Array TypeId} {vs : List Value} {v : Value} (h : doZeroes P s ts vs = some (v, s')) : s'.obl → s.obl := by
  unfold doZeroes at h
  split at h
  · split at h
    · split at h
      · split at h
        · split at h
          · split at h
            · obtain ⟨b, ha, _⟩ := newRowOf_spec h
              exact fun ho => (St.alloc_next ha).2.2.2.2.1 ▸ ho
            · simp at h
          · simp at h
        · simp at h
      · simp at h
    · simp at h
  · simp at h
theorem doArrayAt_obl {P : Program} {s s' : St} {t : TypeId} {x v : Value} (h : doArrayAt P s t x = some (v, s')) : s'.obl → s.obl := by
  unfold doArrayAt at h
  split at h
  · split at h
    · cases h
    rw [bind_some] at h; obtain ⟨s1, hn, h⟩ := h
    simp at h; obtain ⟨_, rfl⟩ := h
    exact fun ho => ((St.need_spec hn).2.2.2 ho).1
  · simp at h
theorem doMapUpdate_obl {P : Program} {s s' : St} {mt : TypeId} {m k x v : Value} (h : doMapUpdate P s mt m k x = some (v, s')) : s'.obl → s.obl := by
  unfold doMapUpdate at h
  split at h
  · split at h
    · rw [bind_some] at h
      obtain ⟨⟨r, s1⟩, hf, h⟩ := h
      have key := (findC_like hf).2.2.2
      simp only at h
      split at h
      · rw [bind_some] at h; obtain ⟨e, _, h⟩ := h
        rw [bind_some] at h; obtain ⟨s2, hn, h⟩ := h
        rw [bind_some] at h; obtain ⟨s3, hset, h⟩ := h
        simp at h; obtain ⟨_, rfl⟩ := h
        exact fun ho => key (((St.need_spec hn).2.2.2 ((St.setOb_spec hset).2.2.2.1 ▸ ho)).1)
      · rw [bind_some] at h; obtain ⟨s3, hset, h⟩ := h
        simp at h; obtain ⟨_, rfl⟩ := h
        exact fun ho => key ((St.setOb_spec hset).2.2.2.1 ▸ ho)
    · simp at h
  · simp at h
theorem doMapEntry_obl {P : Program} {s s' : St} {mt : TypeId} {m k v : Value} (h : doMapEntry P s mt m k = some (v, s')) : s'.obl → s.obl := by
  unfold doMapEntry at h
  split at h
  · split at h
    · rw [bind_some] at h
      obtain ⟨⟨r, s1⟩, hf, h⟩ := h
      have key := (findC_like hf).2.2.2
      simp only at h
      split at h
      · rw [bind_some] at h; obtain ⟨e, _, h⟩ := h
        rw [bind_some] at h; obtain ⟨s2, hn, h⟩ := h
        rw [bind_some] at h; obtain ⟨s3, hset, h⟩ := h
        simp at h; obtain ⟨_, rfl⟩ := h
        exact fun ho => key (((St.need_spec hn).2.2.2 ((St.setOb_spec hset).2.2.2.1 ▸ ho)).1)
      · rw [bind_some] at h; obtain ⟨z, _, h⟩ := h
        rw [bind_some] at h; obtain ⟨s3, hset, h⟩ := h
        simp at h; obtain ⟨_, rfl⟩ := h
        exact fun ho => key ((St.setOb_spec hset).2.2.2.1 ▸ ho)
    · simp at h
  · simp at h
theorem doEntryStore_obl {s s' : St} {m k x v : Value} (h : doEntryStore s m k x = some (v, s')) : s'.obl → s.obl := by
  unfold doEntryStore at h
  split at h
  · rw [bind_some] at h; obtain ⟨j, _, h⟩ := h
    rw [bind_some] at h; obtain ⟨e, _, h⟩ := h
    rw [bind_some] at h; obtain ⟨s3, hset, h⟩ := h
    simp at h; obtain ⟨_, rfl⟩ := h
    exact fun ho => (St.setOb_spec hset).2.2.2.1 ▸ ho
  · simp at h
theorem doDelete_obl {P : Program} {s s' : St} {ts : Array TypeId} {vs : List Value} {v : Value} (h : doDelete P s ts vs = some (v, s')) : s'.obl → s.obl := by
  unfold doDelete at h
  split at h
  · split at h
    · split at h
      · split at h
        · rw [bind_some] at h
          obtain ⟨⟨r, s1⟩, hf, h⟩ := h
          have key := (findC_like hf).2.2.2
          simp only at h
          split at h
          · rw [bind_some] at h; obtain ⟨s3, hset, h⟩ := h
            simp at h; obtain ⟨_, rfl⟩ := h
            exact fun ho => key ((St.setOb_spec hset).2.2.2.1 ▸ ho)
          · simp at h; obtain ⟨_, rfl⟩ := h; exact key
        · simp at h
      · simp at h
    · simp at h
  · simp at h
theorem doLenMap_obl {s s' : St} {vs : List Value} {v : Value} (h : doLenMap s vs = some (v, s')) : s'.obl → s.obl := by
  unfold doLenMap at h
  split at h
  · rw [bind_some] at h; obtain ⟨es, _, h⟩ := h
    simp at h; obtain ⟨_, rfl⟩ := h; exact id
  · simp at h
theorem doMakeMap_obl {s s' : St} {r : Option (Option Value)} {v : Value} (h : doMakeMap s r = some (v, s')) : s'.obl → s.obl := by
  unfold doMakeMap at h
  split at h
  · rw [bind_some] at h; obtain ⟨⟨b, s1⟩, ha, h⟩ := h
    simp at h; obtain ⟨_, rfl⟩ := h
    exact fun ho => (St.alloc_next ha).2.2.2.2.1 ▸ ho
  · simp at h
end Go.Cln
