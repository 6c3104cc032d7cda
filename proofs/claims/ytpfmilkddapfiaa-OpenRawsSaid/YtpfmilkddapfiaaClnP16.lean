/- A determinate reading of Go's code: code and calls. -/
import Derived.Test.YtpfmilkddapfiaaClnP14
import Derived.Test.YtpfmilkddapfiaaClnC
namespace Go.Cln
set_option linter.unusedVariables false
set_option linter.unusedSimpArgs false
set_option linter.deprecated false
section scope
variable {P : Program} {F : Fence} {n : Nat} {Q : Exit → Act → World → Prop}
theorem stepR_scope {b : Frame} {a : Act} {k : List Item} {cs : List Frame} {w : World} {c : Code} : step P (lone (b.atR a (.code (.scope c) :: k)) cs w) = .next (lone (b.atR a (.code c :: .inScope c :: k)) cs w) :=
  step_lone_go (by simp [stepG, stepG.exec, Frame.atR])
theorem stepR_inScope {b : Frame} {a : Act} {k : List Item} {cs : List Frame} {w : World} {c : Code} : step P (lone (b.atR a (.inScope c :: k)) cs w) = .next (lone (b.atR a k) cs w) :=
  step_lone_go (by simp [stepG, stepG.exec, Frame.atR])
def ScopeOk (F : Fence) (n : Nat) (P : Program) (c : Code) (Q : Exit → Act → World → Prop) : Nat → Code → Act → World → Prop
  | 0, x, a, w => x.wpIn F n P (fun e a' w' => (∀ l, e = .goto l → findLabel c l = none) ∧ Q e a' w') a w
  | j + 1, x, a, w => x.wpIn F n P (fun e a' w' => ((∀ l, e = .goto l → findLabel c l = none) ∧ Q e a' w') ∨ ∃ l rest, e = .goto l ∧ findLabel c l = some rest ∧ ScopeOk F n P c Q j rest a' w') a w
theorem scope_out {c : Code} {m : Machine} {b : Frame} {k : List Item} {cs : List Frame} {I : Machine → Prop} {e : Exit} {a : Act} {w : World} (hI : I (lone (b.atR a (.inScope c :: k)) cs w)) (hg : ∀ l, e = .goto l → findLabel c l = none)
    (h : ArrivesIn I P m b (.inScope c :: k) cs e a w) : ArrivesIn I P m b k cs e a w := by
  cases e with
  | normal => exact StepsIn.trans h (.one hI stepR_inScope)
  | exit id =>
    have hx : exitTo id (.inScope c :: k) = exitTo id k := by simp [exitTo]
    exact ⟨fun k' hk => h.1 k' (by rw [hx]; exact hk), fun hr hk => h.2 hr (by rw [hx]; exact hk)⟩
  | goto l =>
    have hx : gotoIn l (.inScope c :: k) = gotoIn l k := by simp [gotoIn, hg l rfl]
    exact ⟨fun k' hk => h.1 k' (by rw [hx]; exact hk), fun hr hk => h.2 hr (by rw [hx]; exact hk)⟩
  | ret => exact h
  | panic ch => exact h
  | outgrown => exact h
theorem scope_arrives {c : Code} : ∀ (j : Nat) (x : Code) (a : Act) (w : World), ScopeOk F n P c Q j x a w → ∀ (b : Frame) (k : List Item) (cs : List Frame), b.roundOf = F.round → F.fn b.fn → F.room (cs.length + 1 + n) →
    ∃ e a' w', Q e a' w' ∧ ArrivesIn (Machine.fenced P F) P (lone (b.atR a (.code x :: .inScope c :: k)) cs w) b k cs e a' w' := by
  intro j
  induction j with
  | zero =>
    intro x a w h b k cs hro hb hr
    obtain ⟨e, a', w', ⟨hg, hq⟩, harr⟩ := h b (.inScope c :: k) cs hro hb hr
    exact ⟨e, a', w', hq, scope_out (fenced_calm hb hr rfl) hg harr⟩
  | succ j ih =>
    intro x a w h b k cs hro hb hr
    obtain ⟨e, a', w', hq, harr⟩ := h b (.inScope c :: k) cs hro hb hr
    rcases hq with ⟨hg, hq⟩ | ⟨l, rest, rfl, hf, hs⟩
    · exact ⟨e, a', w', hq, scope_out (fenced_calm hb hr rfl) hg harr⟩
    · obtain ⟨e2, a2, w2, hq2, harr2⟩ := ih rest a' w' hs b k cs hro hb hr
      exact ⟨e2, a2, w2, hq2, .of_steps (harr.1 _ (by simp [gotoIn, hf])) harr2⟩
theorem wpIn_scope {c : Code} {a : Act} {w : World} (j : Nat) (h : ScopeOk F n P c Q j c a w) : (Code.scope c).wpIn F n P Q a w := by
  intro b k cs hro hb hr
  obtain ⟨e, a', w', hq, harr⟩ := scope_arrives j c a w h b k cs hro hb hr
  exact ⟨e, a', w', hq, .of_steps (.one (fenced_calm hb hr rfl) stepR_scope) harr⟩
end scope
def DrawOk (P : Program) (K : Given) (ih : Orc) : Prop :=
  ∀ (ops : Array Oper) (s s' : St), runDraw P K ih ops s = some s' → (s'.obl → s.obl) ∧ (s'.obl → ∀ (id n : Nat) (rd : Option Nat) (ρ : Nat → PB) (w : World) (a : Act) (Q : Exit → Act → World → Prop), Rel s ρ w a →
    (∀ ρ' w' a', Rel s' ρ' w' a' → Tra s s' ρ ρ' w w' → Q .normal a' w') → (Code.region id ops true).wpIn (fenceOf rd ρ) n P Q a w)
structure GivenOk (P : Program) (K : Given) : Prop where
  callObl : ∀ {f : FuncId} {args : List Value} {s s' : St} {v : Value}, K.call f args s = some (v, s') → s'.obl → s.obl
  call : ∀ {f : FuncId} {args : List Value} {s s' : St} {v : Value}, K.call f args s = some (v, s') → CallOk P f args s v s'
  loopObl : ∀ {f : FuncId} {c : Code} {s s' : St} {e : Exit}, K.loop f c s = some (e, s') → s'.obl → s.obl
  loop : ∀ {f : FuncId} {c : Code} {s s' : St} {e : Exit}, K.loop f c s = some (e, s') → ∀ rd, CodeOk P rd (.loop c) s e s'
theorem GivenOk.nothing (P : Program) : GivenOk P Given.nothing := ⟨fun h => by simp [Given.nothing] at h, fun h => by simp [Given.nothing] at h, fun h => by simp [Given.nothing] at h, fun h => by simp [Given.nothing] at h⟩
theorem runScope_obl {ih : Orc} (hi : OrcObl ih) {f : FuncId} {rd : Option Nat} {c : Code} : ∀ (n : Nat) {r : Exit × St} {e : Exit} {s' : St}, runScope ih f rd c n r = some (e, s') → s'.obl → r.2.obl := by
  intro n
  induction n with
  | zero =>
    intro r e s' h
    obtain ⟨e0, s0⟩ := r
    cases e0 <;> simp only [runScope] at h
    case goto l =>
      split at h
      · simp at h; obtain ⟨_, rfl⟩ := h; exact id
      · simp at h
    all_goals (simp at h; obtain ⟨_, rfl⟩ := h; exact id)
  | succ n ihn =>
    intro r e s' h
    obtain ⟨e0, s0⟩ := r
    cases e0 <;> simp only [runScope] at h
    case goto l =>
      split at h
      · simp at h; obtain ⟨_, rfl⟩ := h; exact id
      · rw [bind_some] at h
        obtain ⟨⟨e1, s1⟩, h1, h⟩ := h
        exact fun k => hi.code h1 (ihn h k)
    all_goals (simp at h; obtain ⟨_, rfl⟩ := h; exact id)
theorem runScope_sound {P : Program} {ih : Orc} (hi : OrcOk P ih) {f : FuncId} {rd : Option Nat} {c : Code} : ∀ (m : Nat) {x : Code} {s : St} {r : Exit × St} {e : Exit} {s' : St}, CodeOk P rd x s r.1 r.2 → runScope ih f rd c m r = some (e, s') → s'.obl →
    ∀ (n : Nat) (ρ : Nat → PB) (w : World) (a : Act) (Q : Exit → Act → World → Prop), (∀ l, rd = some l → l < s.next) → Rel s ρ w a → (∀ ρ' w' a', Rel s' ρ' w' a' → Tra s s' ρ ρ' w w' → Q e a' w') → ScopeOk (fenceOf rd ρ) n P c Q m x a w := by
  intro m
  induction m with
  | zero =>
    intro x s r e s' hx h ho n ρ w a Q hrd hr hq
    have ho1 := runScope_obl hi.toOrcObl 0 h ho
    simp only [ScopeOk]
    refine hx ho1 n ρ w a _ hrd hr fun ρ1 w1 a1 r1 t1 => ?_
    obtain ⟨e0, s0⟩ := r
    cases e0 <;> simp only [runScope] at h
    case goto l =>
      split at h
      · rename_i hf
        simp only [Option.some.injEq, Prod.mk.injEq] at h; obtain ⟨rfl, rfl⟩ := h
        exact ⟨fun l' e => by cases e; exact hf, hq ρ1 w1 a1 r1 t1⟩
      · simp at h
    all_goals
      simp only [Option.some.injEq, Prod.mk.injEq] at h; obtain ⟨rfl, rfl⟩ := h
      exact ⟨(fun l' e => by cases e), hq ρ1 w1 a1 r1 t1⟩
  | succ m ihm =>
    intro x s r e s' hx h ho n ρ w a Q hrd hr hq
    have ho1 := runScope_obl hi.toOrcObl (m + 1) h ho
    simp only [ScopeOk]
    refine hx ho1 n ρ w a _ hrd hr fun ρ1 w1 a1 r1 t1 => ?_
    obtain ⟨e0, s0⟩ := r
    cases e0 <;> simp only [runScope] at h
    case goto l =>
      split at h
      · rename_i hf
        simp only [Option.some.injEq, Prod.mk.injEq] at h; obtain ⟨rfl, rfl⟩ := h
        exact .inl ⟨fun l' e => by cases e; exact hf, hq ρ1 w1 a1 r1 t1⟩
      · rename_i rest hf
        rw [bind_some] at h
        obtain ⟨⟨e1, s1⟩, h1, h⟩ := h
        right
        refine ⟨l, rest, rfl, hf, ?_⟩
        have hrd1 : ∀ l, rd = some l → l < s0.next := fun l e => Nat.lt_of_lt_of_le (hrd l e) t1.next
        have := ihm (r := (e1, s1)) (hi.okCode h1) h ho n ρ1 w1 a1 Q hrd1 r1 fun ρ2 w2 a2 r2 t2 => hq ρ2 w2 a2 r2 (t1.trans t2)
        rw [fenceOf_ext hrd t1.ext] at this
        exact this
    all_goals
      simp only [Option.some.injEq, Prod.mk.injEq] at h; obtain ⟨rfl, rfl⟩ := h
      exact .inl ⟨(fun l' e => by cases e), hq ρ1 w1 a1 r1 t1⟩
theorem runLoop_obl {ih : Orc} (hi : OrcObl ih) {f : FuncId} {rd : Option Nat} {c : Code} : ∀ (n : Nat) {s s' : St} {e : Exit}, runLoop ih f rd c n s = some (e, s') → s'.obl → s.obl := by
  intro n
  induction n with
  | zero => intro s s' e h; simp [runLoop] at h
  | succ n ihn =>
    intro s s' e h
    simp only [runLoop, bind_some] at h
    obtain ⟨⟨e1, s1⟩, h1, h⟩ := h
    split at h
    · exact fun k => hi.code h1 (ihn h k)
    · simp only [Option.some.injEq, Prod.mk.injEq] at h; obtain ⟨_, rfl⟩ := h; exact hi.code h1
theorem doRange_obl {P : Program} {ih : Orc} (hi : OrcObl ih) {f : FuncId} {rd : Option Nat} {s s' : St} {g : Value} {ps : Array Tmp} {assign body : Code} {e : Exit} (h : doRange P ih f rd s g ps assign body = some (e, s')) : s'.obl → s.obl := by
  unfold doRange at h
  rw [bind_some] at h; obtain ⟨⟨d, s1⟩, h1, h⟩ := h
  rw [bind_some] at h; obtain ⟨⟨l, s2⟩, h2, h⟩ := h
  have o1 : s1.obl → s.obl := by
    split at h1
    · rw [bind_some] at h1; obtain ⟨⟨b, s0⟩, h0, h1⟩ := h1
      simp only [Option.some.injEq, Prod.mk.injEq] at h1; obtain ⟨_, rfl⟩ := h1
      exact fun k => alloc_obl h0 k
    · rw [bind_some] at h1; obtain ⟨r, hr, h1⟩ := h1
      simp only [Option.some.injEq, Prod.mk.injEq] at h1; obtain ⟨_, rfl⟩ := h1
      exact id
  split at h
  · rw [bind_some] at h; obtain ⟨⟨v, s3⟩, h3, h⟩ := h
    rw [bind_some] at h; obtain ⟨r, hr, h⟩ := h
    split at h
    · simp at h
    · rw [bind_some] at h; obtain ⟨s4, h4, h⟩ := h
      have o3 : s3.obl → s2.obl := by
        unfold doEnter at h3
        split at h3
        · split at h3
          · exact hi.call h3
          · simp at h3
        · simp at h3
      split at h
      · simp only [Option.some.injEq, Prod.mk.injEq] at h; obtain ⟨_, rfl⟩ := h
        exact fun k => o1 (alloc_obl h2 (o3 (setOb_obl h4 k)))
      · exact fun k => o1 (alloc_obl h2 (o3 (setOb_obl h4 (by have := hi.code h k; exact this))))
  · simp at h
theorem stepCode_obl {P : Program} {K : Given} (hK : GivenOk P K) {ih : Orc} (hi : OrcObl ih) (hd : DrawOk P K ih) {f : FuncId} {rd : Option Nat} {c : Code} {s s' : St} {e : Exit} (h : stepCode P K ih f rd c s = some (e, s')) : s'.obl → s.obl := by
  cases c with
  | skip => simp [stepCode] at h; obtain ⟨_, rfl⟩ := h; exact id
  | label l => simp [stepCode] at h; obtain ⟨_, rfl⟩ := h; exact id
  | exit l => simp [stepCode] at h; obtain ⟨_, rfl⟩ := h; exact id
  | goto l => simp [stepCode] at h; obtain ⟨_, rfl⟩ := h; exact id
  | ret => simp [stepCode] at h; obtain ⟨_, rfl⟩ := h; exact id
  | refuse y => simp [stepCode] at h
  | seq a b =>
    simp only [stepCode, bind_some] at h
    obtain ⟨⟨e1, s1⟩, h1, h⟩ := h
    split at h
    · exact fun k => hi.code h1 (hi.code h k)
    · simp only [Option.some.injEq, Prod.mk.injEq] at h; obtain ⟨_, rfl⟩ := h; exact hi.code h1
  | cond c x y =>
    simp only [stepCode, bind_some] at h
    obtain ⟨v, hv, h⟩ := h
    split at h
    · rw [bind_some] at h
      obtain ⟨⟨b, s1⟩, h1, h⟩ := h
      intro k
      have := hi.code h k
      have h2 : s1.obl := by revert this; cases c <;> exact id
      exact branch_obl h1 h2
    · simp at h
  | block id c =>
    simp only [stepCode, bind_some] at h
    obtain ⟨⟨e1, s1⟩, h1, h⟩ := h
    simp only [Option.some.injEq, Prod.mk.injEq] at h; obtain ⟨_, rfl⟩ := h; exact hi.code h1
  | loop c =>
    simp only [stepCode] at h
    split at h
    · rename_i r hr
      simp only [Option.some.injEq] at h; subst h; exact hK.loopObl hr
    · exact runLoop_obl hi _ h
  | scope c =>
    simp only [stepCode, bind_some] at h
    obtain ⟨⟨e1, s1⟩, h1, h⟩ := h
    exact fun k => hi.code h1 (runScope_obl hi _ h k)
  | region id ops draw =>
    cases draw with
    | false =>
      simp only [stepCode, bind_some] at h
      obtain ⟨s1, h1, h⟩ := h
      simp only [Option.some.injEq, Prod.mk.injEq] at h; obtain ⟨_, rfl⟩ := h; exact runSeq_obl hi h1
    | true =>
      simp only [stepCode, bind_some] at h
      obtain ⟨s1, h1, h⟩ := h
      simp only [Option.some.injEq, Prod.mk.injEq] at h; obtain ⟨_, rfl⟩ := h; exact (hd _ _ _ h1).1
  | rangeFunc g ps as bd =>
    simp only [stepCode, bind_some] at h
    obtain ⟨v, _, h⟩ := h
    exact doRange_obl hi h
end Go.Cln
