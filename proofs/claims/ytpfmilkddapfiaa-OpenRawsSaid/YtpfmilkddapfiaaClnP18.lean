/- A determinate reading of Go's code: it is what the model does, whole. -/
import Derived.Test.YtpfmilkddapfiaaClnP17
import Derived.LoopNIn
namespace Go.Cln
set_option linter.unusedVariables false
set_option linter.unusedSimpArgs false
set_option linter.deprecated false
theorem run_endLoop {P : Program} {w : World} {l : Nat} {r : Loop} (h : w.heap[l]? = some (.loop r)) (hb : (r.state == .busy) = false) : (Instr.endLoop l).run P w = .ok r.pending { w with heap := w.heap.setIfInBounds l (.loop { r with state := .exhausted }) } := by
  simp only [Instr.endLoop, Sem.run_bind, run_getLoop h, Result.andThen_ok, hb, Bool.false_eq_true, if_false, run_setLoop h, Sem.run_pure]
set_option maxHeartbeats 1000000 in
theorem doRange_sound {P : Program} (G : PG P) {ih : Orc} (hi : OrcOk P ih) {f : FuncId} {rd : Option Nat} {s s' : St} {g : Operand} {gv : Value} {ps : Array Tmp} {assign body : Code} {e : Exit} (hg : ev s g = some gv) (h : doRange P ih f rd s gv ps assign body = some (e, s')) : CodeOk P rd (.rangeFunc g ps assign body) s e s' := by
  intro ho n ρ w a Q hrd hr hq
  unfold doRange at h
  rw [bind_some] at h; obtain ⟨⟨d, s1⟩, h1, h⟩ := h
  rw [bind_some] at h; obtain ⟨⟨l, s2⟩, h2, h⟩ := h
  -- the block of the rounds' deferred calls
  have hd : ∃ (db : Nat) (mark : List Deferred) (w1 : World) (ρ1 : Nat → PB), Hs s1 ρ1 w1 ∧ Tra s s1 ρ ρ1 w w1 ∧ Dm s1 d ∧ (ρ1 d).blk = db ∧ s1.defers = (if rd = none then [d] else []) ++ s.defers ∧ mark = (if rd = none then [({ target := .collected db, args := #[] } : Deferred)] else []) ∧
      (∀ (fn : FuncId) (params : Array Tmp) (as bd : Code), (Instr.enterLoop fn a.tmps params as bd (fenceOf rd ρ).round).run P w = .ok (w1.heap.size, mark) (w1.alloc (.loop { state := .ready, pending := none, fn, tmps := a.tmps, params, assign := as, body := bd, defers := db }))) := by
    cases rd with
    | none =>
      simp only at h1
      rw [bind_some] at h1; obtain ⟨⟨b, s0⟩, h0, h1⟩ := h1
      simp only [Option.some.injEq, Prod.mk.injEq] at h1; obtain ⟨rfl, rfl⟩ := h1
      have hdm0 := St.alloc_dm h0 hr.hs.hid
      obtain ⟨n1, n2, n3, n4, n5, n6, n7, n8, n9, n10⟩ := St.alloc_next h0
      obtain ⟨g1, g2⟩ := alloc_sound (o' := .deferred (some [])) ⟨w.heap.size, 0, 0⟩ h0 hr.hs rfl (heap_alloc_new _ _)
      have l0 : Like s0 { s0 with defers := b :: s0.defers } := ⟨rfl, rfl, rfl, rfl, rfl⟩
      refine ⟨w.heap.size, _, w.alloc (.deferred (some [])), _, l0.holds g1, g2.like l0, by rw [l0.dm, n1]; exact hdm0.1, by rw [n1, upd_at], by simp [n8], rfl, fun fn params as bd => ?_⟩
      simp [Instr.enterLoop, fenceOf, Fence.wide]
    | some lr =>
      simp only at h1
      rw [bind_some] at h1; obtain ⟨r, hrr, h1⟩ := h1
      simp only [Option.some.injEq, Prod.mk.injEq] at h1; obtain ⟨rfl, rfl⟩ := h1
      obtain ⟨hlt, r', hr', hR⟩ := hr.hs.loop (getLoop_some hrr)
      refine ⟨r'.defers, _, w, ρ, hr.hs, Tra.refl _ _ _, hR.lt, hR.defers.symm, by simp, rfl, fun fn params as bd => ?_⟩
      simp [Instr.enterLoop, fenceOf, run_getLoop hr']
  obtain ⟨db, mark, w1, ρ1, hs1, t1, hdl, hdb, hdef, hmark, hent⟩ := hd
  have hdm2 := St.alloc_dm h2 hs1.hid
  obtain ⟨n1, n2, n3, n4, n5, n6, n7, n8, n9, n10⟩ := St.alloc_next h2
  have hobl2 : s2.obl = s1.obl := n5
  have hN12 : s2.next = s1.next + 1 := n2
  have hN01 : s.next ≤ s1.next := t1.next
  have rf := ev_sound hr.tmps hg
  have htm : s1.tmps = s.tmps := by
    cases rd with
    | none =>
      simp only at h1
      rw [bind_some] at h1; obtain ⟨⟨b, s0⟩, h0, h1⟩ := h1
      simp only [Option.some.injEq, Prod.mk.injEq] at h1; obtain ⟨rfl, rfl⟩ := h1
      exact (St.alloc_next h0).2.2.2.2.2.2.1
    | some lr =>
      simp only at h1
      rw [bind_some] at h1; obtain ⟨r, hrr, h1⟩ := h1
      simp only [Option.some.injEq, Prod.mk.injEq] at h1; obtain ⟨_, rfl⟩ := h1; rfl
  split at h
  · rename_i gf first cap
    rw [bind_some] at h; obtain ⟨⟨v, s3⟩, h3, h⟩ := h
    rw [bind_some] at h; obtain ⟨r, hrl, h⟩ := h
    split at h
    · simp at h
    · rename_i hnbm
      rw [Bool.or_eq_true, not_or] at hnbm
      obtain ⟨hnb, hmayl⟩ := hnbm
      rw [bind_some] at h; obtain ⟨s4, h4, h⟩ := h
      unfold doEnter at h3
      split at h3
      case h_2 => simp at h3
      rename_i fn hfn
      split at h3
      case isFalse => simp at h3
      rename_i hb
      have o4 : s4.obl := by
        split at h
        · simp only [Option.some.injEq, Prod.mk.injEq] at h; obtain ⟨_, rfl⟩ := h; exact ho
        · have := hi.code h ho; exact this
      have o3 : s3.obl := setOb_obl h4 o4
      refine wpIn_rangeFunc fun fr _ => ?_
      -- the record
      have hal := alloc_sound (o' := .loop { state := .ready, pending := none, fn := fr, tmps := a.tmps, params := ps, assign := assign, body := body, defers := db }) ⟨w1.heap.size, 0, 0⟩ h2 hs1 rfl
        ⟨_, heap_alloc_new _ _, ⟨rfl, rfl, by
          have := hr.tmps.mono (N' := Dm s2) (ρ' := upd ρ1 s1.next ⟨w1.heap.size, 0, 0⟩) (fun x hx => hdm2.2 x (t1.dm x hx)) (fun b hb => by rw [upd_lt ρ1 _ (Nat.lt_of_lt_of_le hb.1 t1.next)]; exact t1.extD b hb)
          exact this, rfl, rfl, rfl, hdm2.2 d hdl, by rw [upd_lt ρ1 _ hdl.1]; exact hdb.symm⟩⟩
      obtain ⟨hs2, t2⟩ := hal
      have hlD : Dm s2 l := by rw [n1]; exact hdm2.1
      have hlN : l < s2.next := hlD.1
      have hlB : (upd ρ1 s1.next ⟨w1.heap.size, 0, 0⟩ l).blk = w1.heap.size := by rw [n1, upd_at]
      have hss : s.next ≤ s2.next := Nat.le_trans t1.next (by rw [n2]; exact Nat.le_succ _)
      have key : ∃ first' cap', a.eval g = .func (.func gf) first' cap' ∧ VL (Dm s2) (upd ρ1 s1.next ⟨w1.heap.size, 0, 0⟩) (first.toList ++ [Value.func (.yield l) #[] #[]] ++ cap.toList) (first'.toList ++ [Value.func (.yield w1.heap.size) #[] #[]] ++ cap'.toList) := by
        have hy : VL (Dm s2) (upd ρ1 s1.next ⟨w1.heap.size, 0, 0⟩) [Value.func (.yield l) #[] #[]] [Value.func (.yield w1.heap.size) #[] #[]] := by
          have := VR.yield (N := Dm s2) (ρ := upd ρ1 s1.next ⟨w1.heap.size, 0, 0⟩) hlD
          rw [hlB] at this
          exact VL.cons this VL.nil
        generalize a.eval g = z at rf
        cases rf with
        | same hf =>
          simp only [flat0, Bool.and_eq_true, List.isEmpty_iff] at hf
          refine ⟨first, cap, rfl, ?_⟩
          rw [hf.1, hf.2]; simpa using hy
        | fn k1 k2 k3 k4 =>
          have m : ∀ {x x' : List Value}, VL (Dm s) ρ x x' → VL (Dm s2) (upd ρ1 s1.next ⟨w1.heap.size, 0, 0⟩) x x' := fun hx => hx.mono (fun x hx => hdm2.2 x (t1.dm x hx)) (fun b hb => by rw [upd_lt ρ1 _ (Nat.lt_of_lt_of_le hb.1 t1.next)]; exact t1.extD b hb)
          exact ⟨_, _, rfl, VL.append (VL.append (m ⟨k1, k2⟩) hy) (m ⟨k3, k4⟩)⟩
      obtain ⟨first', cap', hev, hvl⟩ := key
      have hdep : (fenceOf rd ρ).depth.isSome = true → 1 ≤ n := fun x => by rw [fenceOf_depth] at x; simp at x
      let W2 := w1.alloc (.loop { state := .ready, pending := none, fn := fr, tmps := a.tmps, params := ps, assign := assign, body := body, defers := db })
      refine ⟨w1.heap.size, mark, W2, { target := .fn (.func gf) cap', args := first' ++ #[Value.func (.yield w1.heap.size) #[] #[]] }, W2, gf, first' ++ #[Value.func (.yield w1.heap.size) #[] #[]] ++ cap', W2, hent fr ps assign body, ?_, fun f' _ => fenceOf_fn _ _ _, run_callFunc G hfn hb _ _, hdep, fenceOf_calls (m := n - 1) ?_⟩
      · simp only [resolve, rangeCall, hev, Deferred.ofValue]
        simp [Act.eval]
      · have hargs : (first'.toList ++ [Value.func (.yield w1.heap.size) #[] #[]] ++ cap'.toList).toArray = first' ++ #[Value.func (.yield w1.heap.size) #[] #[]] ++ cap' := by apply Array.ext'; simp
        have hcall := hi.okCall h3 o3 (n - 1) _ _ _ hs2 hvl
        rw [hargs] at hcall
        refine hcall.mono ?_
        rintro e' w3 ⟨v', ρ3, rfl, g1, hs3, t3⟩
        simp only [rangePost]
        have hgl := getLoop_some hrl
        obtain ⟨hl3, r', hr', hR⟩ := hs3.loop hgl
        have el3 : (ρ3 l).blk = w1.heap.size := by rw [t3.ext l hlN, hlB]
        rw [el3] at hr'
        have hnb' : (r'.state == LoopState.busy) = false := by
          rw [hR.state]; cases hst : r.state <;> simp [hst, busy?] at hnb <;> rfl
        have hm3 : s3.may l = true := by simpa using hmayl
        obtain ⟨hs4, t4⟩ := loop_set (r2 := { r with state := .exhausted }) (r2' := { r' with state := .exhausted }) h4 hs3 hgl hm3 (by rw [el3]; exact hr') ⟨rfl, hR.pending, hR.tmps, hR.params, hR.assign, hR.body, hR.lt, hR.defers⟩
        rw [el3] at hs4 t4
        have hend := run_endLoop (P := P) hr' hnb'
        generalize ({ w3 with heap := w3.heap.setIfInBounds w1.heap.size (.loop { r' with state := .exhausted }) } : World) = W4 at hs4 t4 hend
        refine ⟨r'.pending, W4, hend, ?_⟩
        obtain ⟨m1, m2, m3, m4, m5, m6, m7, m8, m9⟩ := St.setOb_spec h4
        have tall := ((t1.trans t2).trans t3).trans t4
        have hN23 : s2.next ≤ s3.next := t3.next
        have hN34 : s4.next = s3.next := m1
        have lk : Like s4 { s4 with tmps := s2.tmps, defers := s2.defers } := ⟨rfl, rfl, rfl, rfl, rfl⟩
        have hrel : Rel { s4 with tmps := s2.tmps, defers := s2.defers } ρ3 W4 { a with defers := mark ++ a.defers } := by
          have hext : ∀ b, b < s1.next → ρ3 b = ρ1 b := fun b hb => (t3.ext b (show b < s2.next by omega)).trans (upd_lt ρ1 _ hb)
          refine ⟨lk.holds hs4, ?_, ?_, ?_⟩
          · show VL (Dm { s4 with tmps := s2.tmps, defers := s2.defers }) ρ3 s2.tmps a.tmps.toList
            rw [lk.dm, n7, htm]; exact hr.tmps.mono tall.dm tall.extD
          · show mark ++ a.defers = marksOf ρ3 s2.defers
            rw [n8, hdef, hmark, hr.defers, ← marksOf_ext hr.marks tall.ext]
            cases rd with
            | none => simp [marksOf, hext d hdl.1, hdb]
            | some lr => simp
          · intro x hx
            show x < s4.next
            have hx2 : x ∈ s2.defers := hx
            rw [n8, hdef, List.mem_append] at hx2
            have h5 := t3.next
            rcases hx2 with hx2 | hx2
            · cases rd with
              | none => simp at hx2; subst hx2; have := hdl.1; omega
              | some lr => simp at hx2
            · have := hr.marks x hx2; have := t1.next; omega
        have tfin : Tra s { s4 with tmps := s2.tmps, defers := s2.defers } ρ ρ3 w W4 := tall.like lk
        split at h
        · rename_i hp
          simp only [Option.some.injEq, Prod.mk.injEq] at h; obtain ⟨rfl, rfl⟩ := h
          rw [hR.pending, hp]
          exact hq _ _ _ hrel tfin
        · rename_i c hp
          rw [hR.pending, hp]
          simp only
          have hrd4 : ∀ x, rd = some x → x < ({ s4 with tmps := s2.tmps, defers := s2.defers } : St).next := fun x hx => Nat.lt_of_lt_of_le (hrd x hx) tall.next
          rw [← fenceOf_ext hrd tall.ext]
          exact hi.okCode h ho n ρ3 _ _ Q hrd4 hrel fun ρ5 w5 a5 r5 t5 => hq ρ5 w5 a5 r5 (tfin.trans t5)
  · simp at h
theorem blockOut_wp {id : Nat} {Q : Exit → Act → World → Prop} {e : Exit} {a : Act} {w : World} (h : Q (blockOut id e) a w) : Exit.inBlock id Q e a w := by
  cases e <;> simp only [blockOut, Exit.inBlock] at h ⊢ <;> try exact h
  split <;> split at h <;> first | exact h | (rename_i h1 h2; exact absurd h1 h2) | (rename_i h1 h2; exact absurd h2 h1)
theorem runLoop_sound {P : Program} {ih : Orc} (hi : OrcOk P ih) {f : FuncId} {rd : Option Nat} {c : Code} : ∀ (m : Nat) {s s' : St} {e : Exit}, runLoop ih f rd c m s = some (e, s') → s'.obl →
    ∀ (n : Nat) (ρ : Nat → PB) (w : World) (a : Act) (Q : Exit → Act → World → Prop), (∀ l, rd = some l → l < s.next) → Rel s ρ w a → (∀ ρ' w' a', Rel s' ρ' w' a' → Tra s s' ρ ρ' w w' → Q e a' w') → Code.roundsIn (fenceOf rd ρ) n P c Q m a w := by
  intro m
  induction m with
  | zero => intro s s' e h; simp [runLoop] at h
  | succ m ihm =>
    intro s s' e h ho n ρ w a Q hrd hr hq
    simp only [runLoop, bind_some] at h
    obtain ⟨⟨e1, s1⟩, h1, h⟩ := h
    rw [roundsIn_succ]
    split at h
    · rename_i hn
      have o1 := runLoop_obl hi.toOrcObl m h ho
      have he : e1 = .normal := by cases e1 <;> simp [normal?] at hn; rfl
      subst he
      refine hi.okCode h1 o1 n ρ w a _ hrd hr fun ρ1 w1 a1 r1 t1 => ?_
      show Code.roundsIn _ n P c Q m a1 w1
      rw [← fenceOf_ext hrd t1.ext]
      exact ihm h ho n ρ1 w1 a1 Q (fun l e => Nat.lt_of_lt_of_le (hrd l e) t1.next) r1 fun ρ2 w2 a2 r2 t2 => hq ρ2 w2 a2 r2 (t1.trans t2)
    · rename_i hn
      simp only [Option.some.injEq, Prod.mk.injEq] at h; obtain ⟨rfl, rfl⟩ := h
      refine hi.okCode h1 ho n ρ w a _ hrd hr fun ρ1 w1 a1 r1 t1 => ?_
      have := hq ρ1 w1 a1 r1 t1
      cases e1 <;> first | exact this | (simp [normal?] at hn)
theorem cond_tmps {s1 : St} {c : Operand} {b : Bool} {N : Nat → Prop} {ρ : Nat → PB} {a : Act} (hv : a.eval c = .bool b) (ht : VL N ρ s1.tmps a.tmps.toList) :
    VL N ρ (s1.told c b).tmps a.tmps.toList := by
  cases c with
  | tmp t =>
    refine ⟨by simpa [St.told, setL_eq] using ht.1, fun i v w hx hy => ?_⟩
    simp only [St.told, setL_eq, List.getElem?_set] at hx
    split at hx
    · rename_i hti
      subst hti
      split at hx
      · simp only [Option.some.injEq] at hx; subst hx
        have : w = .bool b := by
          simp only [Act.eval] at hv
          rw [getD_list, List.getD_eq_getElem?_getD, hy] at hv
          exact hv
        subst this; exact .same rfl
      · simp at hx
    · exact ht.2 i v w hx hy
  | _ => exact ht
set_option maxHeartbeats 1000000 in
theorem stepCode_sound {P : Program} (G : PG P) {K : Given} (hK : GivenOk P K) {ih : Orc} (hi : OrcOk P ih) (hd : DrawOk P K ih) {f : FuncId} {rd : Option Nat} {c : Code} {s s' : St} {e : Exit} (h : stepCode P K ih f rd c s = some (e, s')) : CodeOk P rd c s e s' := by
  intro ho n ρ w a Q hrd hr hq
  cases c with
  | skip => simp only [stepCode, Option.some.injEq, Prod.mk.injEq] at h; obtain ⟨rfl, rfl⟩ := h; exact wpIn_skip (hq ρ w a hr (Tra.refl _ _ _))
  | label l => simp only [stepCode, Option.some.injEq, Prod.mk.injEq] at h; obtain ⟨rfl, rfl⟩ := h; exact wpIn_label (hq ρ w a hr (Tra.refl _ _ _))
  | exit l => simp only [stepCode, Option.some.injEq, Prod.mk.injEq] at h; obtain ⟨rfl, rfl⟩ := h; exact wpIn_exit (hq ρ w a hr (Tra.refl _ _ _))
  | goto l => simp only [stepCode, Option.some.injEq, Prod.mk.injEq] at h; obtain ⟨rfl, rfl⟩ := h; exact wpIn_goto (hq ρ w a hr (Tra.refl _ _ _))
  | ret => simp only [stepCode, Option.some.injEq, Prod.mk.injEq] at h; obtain ⟨rfl, rfl⟩ := h; exact wpIn_ret (hq ρ w a hr (Tra.refl _ _ _))
  | refuse y => simp [stepCode] at h
  | seq x y =>
    simp only [stepCode, bind_some] at h
    obtain ⟨⟨e1, s1⟩, h1, h⟩ := h
    refine wpIn_seq ?_
    split at h
    · rename_i hn
      have he : e1 = .normal := by cases e1 <;> simp [normal?] at hn; rfl
      subst he
      refine hi.okCode h1 (hi.code h ho) n ρ w a _ hrd hr fun ρ1 w1 a1 r1 t1 => ?_
      show y.wpIn _ n P Q a1 w1
      rw [← fenceOf_ext hrd t1.ext]
      exact hi.okCode h ho n ρ1 w1 a1 Q (fun l e => Nat.lt_of_lt_of_le (hrd l e) t1.next) r1 fun ρ2 w2 a2 r2 t2 => hq ρ2 w2 a2 r2 (t1.trans t2)
    · rename_i hn
      simp only [Option.some.injEq, Prod.mk.injEq] at h; obtain ⟨rfl, rfl⟩ := h
      refine hi.okCode h1 ho n ρ w a _ hrd hr fun ρ1 w1 a1 r1 t1 => ?_
      have := hq ρ1 w1 a1 r1 t1
      cases e1 <;> first | exact this | (simp [normal?] at hn)
  | cond c x y =>
    simp only [stepCode, bind_some] at h
    obtain ⟨v, hv, h⟩ := h
    split at h
    · rename_i t
      rw [bind_some] at h
      obtain ⟨⟨b, s1⟩, h1, h⟩ := h
      obtain ⟨k1, k2, k3, k4⟩ := St.branch_spec h1
      have o1 : s1.obl := by
        have := hi.code h ho
        revert this; cases c <;> exact id
      have hb := (k4 o1).2
      have hev := (ev_sound hr.tmps hv).eq_flat0 rfl
      rw [hb] at hev
      refine wpIn_cond hev ?_
      have l1 : Like s (s1.told c b) := by cases c <;> exact ⟨k1.heap, k1.next, k1.roB, k1.ro, k1.hid⟩
      have hdf : (s1.told c b).defers = s.defers := by cases c <;> exact k3
      have r1 : Rel (s1.told c b) ρ w a := by
        refine ⟨l1.holds hr.hs, ?_, by rw [hdf]; exact hr.defers, by rw [hdf, l1.next]; exact hr.marks⟩
        rw [l1.dm]
        exact cond_tmps hev (by rw [k2]; exact hr.tmps)
      exact hi.okCode h ho n ρ w a Q (fun l e => by rw [l1.next]; exact hrd l e) r1 fun ρ2 w2 a2 r2 t2 => hq ρ2 w2 a2 r2 (l1.thenTra t2)
    · simp at h
  | block id c =>
    simp only [stepCode, bind_some] at h
    obtain ⟨⟨e1, s1⟩, h1, h⟩ := h
    simp only [Option.some.injEq, Prod.mk.injEq] at h; obtain ⟨rfl, rfl⟩ := h
    refine wpIn_block ?_
    exact hi.okCode h1 ho n ρ w a _ hrd hr fun ρ1 w1 a1 r1 t1 => blockOut_wp (hq ρ1 w1 a1 r1 t1)
  | loop c =>
    simp only [stepCode] at h
    split at h
    · rename_i r hkr
      simp only [Option.some.injEq] at h; subst h
      exact hK.loop hkr rd ho n ρ w a Q hrd hr hq
    · exact wpIn_loop_rounds _ (runLoop_sound hi _ h ho n ρ w a Q hrd hr hq)
  | scope c =>
    simp only [stepCode, bind_some] at h
    obtain ⟨⟨e1, s1⟩, h1, h⟩ := h
    exact wpIn_scope 1000 (runScope_sound hi 1000 (r := (e1, s1)) (hi.okCode h1) h ho n ρ w a Q hrd hr hq)
  | region id ops draw =>
    cases draw with
    | false =>
      simp only [stepCode, bind_some] at h
      obtain ⟨s1, h1, h⟩ := h
      simp only [Option.some.injEq, Prod.mk.injEq] at h; obtain ⟨rfl, rfl⟩ := h
      exact wpIn_region (runSeq_sound G hi ⟨rd, ρ, rfl⟩ h1 ho hr hq)
    | true =>
      simp only [stepCode, bind_some] at h
      obtain ⟨s1, h1, h⟩ := h
      simp only [Option.some.injEq, Prod.mk.injEq] at h; obtain ⟨rfl, rfl⟩ := h
      exact (hd _ _ _ h1).2 ho id n rd ρ w a Q hr hq
  | rangeFunc g ps as bd =>
    simp only [stepCode, bind_some] at h
    obtain ⟨v, hv, h⟩ := h
    exact doRange_sound G hi hv h ho n ρ w a Q hrd hr hq
theorem mk_code {P : Program} {K : Given} {n : Nat} {f : FuncId} {rd : Option Nat} {c : Code} {s : St} : (mk P K (n + 1)).code f rd c s = stepCode P K (mk P K n) f rd c s := St.norm_eq _ _
theorem mk_sound {P : Program} (G : PG P) {K : Given} (hK : GivenOk P K) (hd : ∀ ih, OrcOk P ih → DrawOk P K ih) : ∀ n, OrcOk P (mk P K n)
  | 0 => ⟨⟨fun h => by simp [mk] at h, fun h => by simp [mk] at h⟩, fun h => by simp [mk] at h, fun h => by simp [mk] at h⟩
  | n + 1 => by
    have hi := mk_sound G hK hd n
    have hdn := hd _ hi
    refine ⟨⟨fun h => stepCode_obl hK hi.toOrcObl hdn (mk_code.symm.trans h), fun h => ?_⟩, fun h => stepCode_sound G hK hi hdn (mk_code.symm.trans h), fun h => ?_⟩
    · simp only [mk] at h
      split at h
      · rename_i r hr
        simp only [Option.some.injEq] at h; subst h; exact hK.callObl hr
      · exact stepCall_obl hi.toOrcObl h
    · simp only [mk] at h
      split at h
      · rename_i r hr
        simp only [Option.some.injEq] at h; subst h; exact hK.call hr
      · exact stepCall_sound hi h
end Go.Cln
