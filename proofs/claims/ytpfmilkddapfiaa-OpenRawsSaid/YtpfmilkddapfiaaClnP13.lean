/- A determinate reading of Go's code: operations and rounds, as the model walks them. -/
import Derived.Test.YtpfmilkddapfiaaClnP12
namespace Go.Cln
set_option linter.unusedVariables false
set_option linter.unusedSimpArgs false
set_option linter.deprecated false
def fenceOf (rd : Option Nat) (ρ : Nat → PB) : Fence := match rd with | none => Fence.wide | some l => Fence.wide.inRound (ρ l).blk
theorem fenceOf_fn (rd : Option Nat) (ρ : Nat → PB) (f : FuncId) : (fenceOf rd ρ).fn f := by cases rd <;> exact trivial
theorem fenceOf_depth (rd : Option Nat) (ρ : Nat → PB) : (fenceOf rd ρ).depth = none := by cases rd <;> rfl
theorem fenceOf_calls {rd : Option Nat} {ρ : Nat → PB} {n m : Nat} {P : Program} {f : FuncId} {args : Array Value} {w : World} {R : Ending → World → Prop} (h : CallsIn Fence.wide m P f args w R) : CallsIn (fenceOf rd ρ) n P f args w R := by
  have h' : CallsIn Fence.wide n P f args w R := callsIn_wide.2 (callsIn_wide.1 h)
  cases rd with
  | none => exact h'
  | some l => exact h'
theorem fenceOf_ext {rd : Option Nat} {ρ ρ' : Nat → PB} {N : Nat} (hrd : ∀ l, rd = some l → l < N) (hρ : ∀ b, b < N → ρ' b = ρ b) : fenceOf rd ρ' = fenceOf rd ρ := by
  cases rd with
  | none => rfl
  | some l => simp only [fenceOf]; rw [hρ l (hrd l rfl)]
def marksOf (ρ : Nat → PB) (l : List Nat) : List Deferred := l.map fun d => { target := .collected (ρ d).blk, args := #[] }
theorem marksOf_ext {ρ ρ' : Nat → PB} {N : Nat} {l : List Nat} (hl : ∀ d ∈ l, d < N) (hρ : ∀ b, b < N → ρ' b = ρ b) : marksOf ρ' l = marksOf ρ l := List.map_congr_left fun d hd => by rw [hρ d (hl d hd)]
structure Rel (s : St) (ρ : Nat → PB) (w : World) (a : Act) : Prop where
  hs : Hs s ρ w
  tmps : VL (Dm s) ρ s.tmps a.tmps.toList
  defers : a.defers = marksOf ρ s.defers
  marks : ∀ d ∈ s.defers, d < s.next
abbrev CodeOk (P : Program) (rd : Option Nat) (c : Code) (s : St) (e : Exit) (s' : St) : Prop :=
  s'.obl → ∀ (n : Nat) (ρ : Nat → PB) (w : World) (a : Act) (Q : Exit → Act → World → Prop), (∀ l, rd = some l → l < s.next) → Rel s ρ w a →
    (∀ ρ' w' a', Rel s' ρ' w' a' → Tra s s' ρ ρ' w w' → Q e a' w') → c.wpIn (fenceOf rd ρ) n P Q a w
abbrev CallOk (P : Program) (f : FuncId) (args : List Value) (s : St) (v : Value) (s' : St) : Prop :=
  s'.obl → ∀ (n : Nat) (ρ : Nat → PB) (w : World) (args' : List Value), Hs s ρ w → VL (Dm s) ρ args args' →
    CallsIn Fence.wide n P f args'.toArray w fun e w' => ∃ v' ρ', e = .returned v' ∧ VR (Dm s') ρ' v v' ∧ Hs s' ρ' w' ∧ Tra s s' ρ ρ' w w'
structure OrcOk (P : Program) (ih : Orc) : Prop extends OrcObl ih where
  okCode : ∀ {f : FuncId} {rd : Option Nat} {c : Code} {s s' : St} {e : Exit}, ih.code f rd c s = some (e, s') → CodeOk P rd c s e s'
  okCall : ∀ {f : FuncId} {args : List Value} {s s' : St} {v : Value}, ih.call f args s = some (v, s') → CallOk P f args s v s'
theorem Rel.after {s s' s2 : St} {ρ ρ' : Nat → PB} {w w' : World} {a : Act} (h : Rel s ρ w a) (t : Tra s s' ρ ρ' w w') (hs : Hs s' ρ' w') (l : Like s' s2) (ht : s2.tmps = s.tmps) (hd : s2.defers = s.defers) : Rel s2 ρ' w' a where
  hs := l.holds hs
  tmps := by rw [ht, l.dm]; exact h.tmps.mono t.dm t.extD
  defers := by rw [hd, h.defers]; exact (marksOf_ext h.marks t.ext).symm
  marks d hd' := by rw [hd] at hd'; rw [l.next]; exact Nat.lt_of_lt_of_le (h.marks d hd') t.next
theorem put_tmps (a : Act) (dst : Option Tmp) (v : Value) : (a.put dst v).tmps.toList = match dst with | some d => a.tmps.toList.set d v | none => a.tmps.toList := by
  cases dst <;> simp [Act.put]
theorem set_like (s : St) (dst : Option Tmp) (v : Value) : Like s (s.set dst v) := by cases dst <;> exact ⟨rfl, rfl, rfl, rfl, rfl⟩
theorem Rel.put {s : St} {ρ : Nat → PB} {w : World} {a : Act} (h : Rel s ρ w a) (dst : Option Tmp) {v v' : Value} (hv : VR (Dm s) ρ v v') : Rel (s.set dst v) ρ w (a.put dst v') := by
  cases dst with
  | none => exact h
  | some d => exact ⟨(set_like s (some d) v).holds h.hs, by rw [put_tmps]; show VL _ _ (setL s.tmps d v) _; rw [setL_eq]; exact h.tmps.set d hv, h.defers, h.marks⟩
theorem run_callFunc {P : Program} (G : PG P) {f : FuncId} {fn : Func} (hf : P.funcs[f]? = some fn) (hb : fn.body.isSome = true) (args : Array Value) (w : World) : (callFunc f args).run P w = .ok (.enter f args) w := by
  simp only [callFunc, Sem.run_bind, run_program, Result.andThen_ok, hf]
  have hn := G.named f fn hf hb
  have hb' : fn.body.isNone = false := by cases h : fn.body <;> simp_all
  simp only [hn, hb', Bool.false_eq_true, if_false, Sem.run_pure]
theorem setTmps_fold {N : Nat → Prop} {ρ : Nat → PB} : ∀ {ps : List (Tmp × Value)} {ps' : List (Tmp × Value)} {l : List Value} {l' : Array Value}, VL N ρ l l'.toList →
    (ps.length = ps'.length ∧ ∀ (i : Nat) (x y : Tmp × Value), ps[i]? = some x → ps'[i]? = some y → x.1 = y.1 ∧ VR N ρ x.2 y.2) → VL N ρ (setTmps l ps) (ps'.foldl (fun (t : Array Value) (x : Tmp × Value) => t.setIfInBounds x.1 x.2) l').toList
  | [], ps', l, l', h, hp => by
    have : ps' = [] := List.eq_nil_of_length_eq_zero hp.1.symm
    subst this; exact h
  | (t, v) :: ps, ps', l, l', h, hp => by
    obtain ⟨⟨t', v'⟩, rest, rfl⟩ : ∃ x r, ps' = x :: r := by
      cases ps' with
      | nil => simp at hp
      | cons x r => exact ⟨x, r, rfl⟩
    obtain ⟨rfl, hv⟩ := hp.2 0 (t, v) (t', v') (by simp) (by simp)
    simp only [setTmps, List.foldl_cons]
    refine setTmps_fold ?_ ⟨by simpa using hp.1, fun i x y hx hy => hp.2 (i + 1) x y (by simpa using hx) (by simpa using hy)⟩
    rw [Array.toList_setIfInBounds]; exact h.set t hv
theorem getLoop_some {s : St} {l : Nat} {r : CLoop} (h : getLoop s l = some r) : s.heap.get l = some (.loop r) := by
  unfold getLoop at h
  split at h
  · rename_i r' hr; simp at h; subst h; exact hr
  · simp at h
theorem Hs.loop {s : St} {ρ : Nat → PB} {w : World} (hs : Hs s ρ w) {l : Nat} {r : CLoop} (h : s.heap.get l = some (.loop r)) : Dm s l ∧ ∃ r', w.heap[(ρ l).blk]? = some (.loop r') ∧ LoopR (Dm s) ρ r r' := hs.ob l _ h
theorem run_getLoop {P : Program} {w : World} {l : Nat} {r : Loop} (h : w.heap[l]? = some (.loop r)) : (Instr.getLoop l).run P w = .ok r w := by
  simp [Instr.getLoop, getObj, Sem.run, h]
theorem run_setLoop {P : Program} {w : World} {l : Nat} {r r' : Loop} (h : w.heap[l]? = some (.loop r)) : (setObj l (.loop r')).run P w = .ok () { w with heap := w.heap.setIfInBounds l (.loop r') } := by
  simp [setObj, Sem.run, h]
theorem loop_set {s s' : St} {l : Nat} {r r2 : CLoop} {ρ : Nat → PB} {w : World} {r' r2' : Loop} (h : s.setOb l (some (.loop r2)) = some s') (hs : Hs s ρ w) (hl : s.heap.get l = some (.loop r)) (hm : s.may l = true)
    (hr : w.heap[(ρ l).blk]? = some (.loop r')) (h2 : LoopR (Dm s) ρ r2 r2') : Hs s' ρ { w with heap := w.heap.setIfInBounds (ρ l).blk (.loop r2') } ∧ Tra s s' ρ ρ w { w with heap := w.heap.setIfInBounds (ρ l).blk (.loop r2') } := by
  have hlt : (ρ l).blk < w.heap.size := by
    rcases Nat.lt_or_ge (ρ l).blk w.heap.size with h | h
    · exact h
    · simp [Array.getElem?_eq_none h] at hr
  refine set_sound h hs hl hm rfl rfl rfl (by simp) (fun k hk => by simp [Array.getElem?_setIfInBounds]; intro e; exact absurd e.symm hk) ⟨r2', by simp [hlt], h2⟩
theorem may_kept {s s' : St} {ρ ρ' : Nat → PB} {w w' : World} (t : Tra s s' ρ ρ' w w') (b : Nat) : s'.may b = s.may b := may_of t.roB t.ro b
set_option maxHeartbeats 1000000 in
theorem doYield_sound {P : Program} {ih : Orc} (hi : OrcOk P ih) {s s' : St} {l : Nat} {args args' : List Value} {v : Value} {ρ : Nat → PB} {w : World} (h : doYield ih s l args = some (v, s')) (ho : s'.obl) (hs : Hs s ρ w) (ha : VL (Dm s) ρ args args') (n : Nat) :
    ∃ f tmps assign body, (Instr.yield (ρ l).blk args'.toArray).run P w = .ok (.round (ρ l).blk f tmps assign body) w ∧ RoundIn Fence.wide n P (ρ l).blk f tmps assign body w fun e w' => ∃ v' ρ', e = .returned v' ∧ VR (Dm s') ρ' v v' ∧ Hs s' ρ' w' ∧ Tra s s' ρ ρ' w w' := by
  unfold doYield at h
  rw [bind_some] at h; obtain ⟨r, hr, h⟩ := h
  have hg := getLoop_some hr
  obtain ⟨hln, r', hr', hR⟩ := hs.loop hg
  split at h
  · rename_i hc
    obtain ⟨hm, hlen, hrdy⟩ := hc
    rw [bind_some] at h; obtain ⟨⟨e1, s1⟩, h1, h⟩ := h
    split at h
    · rename_i hn1
      rw [bind_some] at h; obtain ⟨r1, hr1, h⟩ := h
      split at h
      · rename_i hrdy1
        rw [bind_some] at h; obtain ⟨s2, h2, h⟩ := h
        rw [bind_some] at h; obtain ⟨⟨e3, s3⟩, h3, h⟩ := h
        rw [bind_some] at h; obtain ⟨j, hj, h⟩ := h
        rw [bind_some] at h; obtain ⟨r3, hr3, h⟩ := h
        rw [bind_some] at h; obtain ⟨s4, h4, h⟩ := h
        simp only [Option.some.injEq, Prod.mk.injEq] at h; obtain ⟨rfl, rfl⟩ := h
        have o3 : s3.obl := setOb_obl h4 ho
        have o2 : s2.obl := hi.code h3 o3
        have o1 : s1.obl := setOb_obl h2 o2
        have hargs : r'.params.size = args'.length := by rw [hR.params, ← hlen, ha.1]
        refine ⟨r'.fn, (r'.params.zip args'.toArray).foldl (fun tmps (t, a) => tmps.setIfInBounds t a) r'.tmps, r'.assign, r'.body, ?_, ?_⟩
        · simp only [Instr.yield, Sem.run_bind, run_getLoop hr', Result.andThen_ok]
          rw [if_neg (by simp [hargs])]; rfl
        · refine roundIn_of_wpIn (F := Fence.wide) trivial ?_
          have hlike : Like s { s with tmps := setTmps r.tmps (r.params.toList.zip args), defers := [] } := ⟨rfl, rfl, rfl, rfl, rfl⟩
          have hrel : Rel { s with tmps := setTmps r.tmps (r.params.toList.zip args), defers := [] } ρ w { tmps := (r'.params.zip args'.toArray).foldl (fun tmps (t, a) => tmps.setIfInBounds t a) r'.tmps, defers := [] } := by
            refine ⟨hlike.holds hs, ?_, rfl, fun d hd => by simp at hd⟩
            have := setTmps_fold (N := Dm s) (ρ := ρ) (ps := r.params.toList.zip args) (ps' := (r'.params.zip args'.toArray).toList) hR.tmps ⟨by rw [hR.params] at hargs; simp [hR.params, hargs, hlen], fun i x y hx hy => by
              rw [Array.toList_zip, hR.params] at hy
              rw [List.getElem?_zip_eq_some] at hx hy
              obtain ⟨x1, x2⟩ := hx
              obtain ⟨y1, y2⟩ := hy
              rw [x1] at y1
              exact ⟨Option.some.inj y1, ha.2 i _ _ x2 (by simpa using y2)⟩⟩
            rw [← Array.foldl_toList]
            exact this
          have hassign : r'.assign = r.assign := hR.assign
          have hbody : r'.body = r.body := hR.body
          rw [hassign, hbody]
          have hfe : fenceOf (some l) ρ = Fence.wide.inRound (ρ l).blk := rfl
          rw [← hfe]
          refine hi.okCode h1 o1 n ρ w _ _ (fun x hx => by cases hx; exact hln.1) hrel fun ρ1 w1 a1 rel1 t1 => ?_
          have hn : e1 = .normal := by cases e1 <;> simp [normal?] at hn1; rfl
          subst hn
          have hg1 := getLoop_some hr1
          have el1 : ρ1 l = ρ l := t1.ext l hln.1
          obtain ⟨hln1, r1', hr1', hR1⟩ := rel1.hs.loop hg1
          rw [el1] at hr1'
          have hst1 : r1'.state = .ready := by rw [hR1.state]; cases hs1 : r1.state <;> simp [hs1, ready?] at hrdy1; rfl
          have hm1 : s1.may l = true := by rw [may_kept t1]; exact hm
          have hR2 : LoopR (Dm s1) ρ1 { r1 with state := .busy } { r1' with state := .busy } := ⟨rfl, hR1.pending, hR1.tmps, hR1.params, hR1.assign, hR1.body, hR1.lt, hR1.defers⟩
          obtain ⟨g2, t2⟩ := loop_set h2 rel1.hs hg1 hm1 (by rw [el1]; exact hr1') hR2
          rw [el1] at g2 t2
          refine ⟨{ w1 with heap := w1.heap.setIfInBounds (ρ l).blk (.loop { r1' with state := .busy }) }, ?_, ?_⟩
          · simp only [Instr.beginRound, Sem.run_bind, run_getLoop hr1', Result.andThen_ok, run_setLoop hr1', hst1, Sem.run_pure]
          · obtain ⟨m1, m2, m3, m4, m5, m6, m7, m8, m9⟩ := St.setOb_spec h2
            have rel2 : Rel s2 ρ1 { w1 with heap := w1.heap.setIfInBounds (ρ l).blk (.loop { r1' with state := .busy }) } a1 := ⟨g2, by rw [St.setOb_dm h2, m6]; exact rel1.tmps, by rw [m7]; exact rel1.defers, by rw [m7, m1]; exact rel1.marks⟩
            have hfe2 : fenceOf (some l) ρ1 = fenceOf (some l) ρ := fenceOf_ext (N := s.next) (fun x hx => by cases hx; exact hln.1) t1.ext
            rw [← hfe2]
            refine hi.okCode h3 o3 n ρ1 _ a1 _ (fun x hx => by cases hx; rw [m1]; exact hln1.1) rel2 fun ρ3 w3 a3 rel3 t3 => ?_
            have hg3 := getLoop_some hr3
            have el3 : ρ3 l = ρ l := (t3.ext l (by rw [m1]; exact hln1.1)).trans el1
            obtain ⟨hln3, r3', hr3', hR3⟩ := rel3.hs.loop hg3
            rw [el3] at hr3'
            have hm3 : s3.may l = true := by rw [may_kept t3, may_of m2 m3]; exact hm1
            have hR4 : LoopR (Dm s3) ρ3 { r3 with state := if j.isNone then .ready else .done, pending := j } { r3' with state := if j.isNone then .ready else .done, pending := j } := ⟨rfl, rfl, hR3.tmps, hR3.params, hR3.assign, hR3.body, hR3.lt, hR3.defers⟩
            obtain ⟨g4, t4⟩ := loop_set h4 rel3.hs hg3 hm3 (by rw [el3]; exact hr3') hR4
            rw [el3] at g4 t4
            have hlike4 : Like s4 { s4 with tmps := s.tmps, defers := s.defers } := ⟨rfl, rfl, rfl, rfl, rfl⟩
            have hend : (Instr.endRound (ρ l).blk j).run P w3 = .ok (.bool j.isNone) { w3 with heap := w3.heap.setIfInBounds (ρ l).blk (.loop { r3' with state := if j.isNone then .ready else .done, pending := j }) } := by
              simp only [Instr.endRound, Sem.run_bind, run_getLoop hr3', Result.andThen_ok, run_setLoop hr3', Sem.run_pure]
            have hall : ∃ v' ρ', (Ending.returned (.bool j.isNone) : Ending) = .returned v' ∧ VR (Dm ({ s4 with tmps := s.tmps, defers := s.defers } : St)) ρ' (.bool j.isNone) v' ∧ Hs { s4 with tmps := s.tmps, defers := s.defers } ρ' { w3 with heap := w3.heap.setIfInBounds (ρ l).blk (.loop { r3' with state := if j.isNone then .ready else .done, pending := j }) } ∧
                Tra s { s4 with tmps := s.tmps, defers := s.defers } ρ ρ' w { w3 with heap := w3.heap.setIfInBounds (ρ l).blk (.loop { r3' with state := if j.isNone then .ready else .done, pending := j }) } :=
              ⟨_, ρ3, rfl, .same rfl, hlike4.holds g4, (((hlike.thenTra t1).trans t2).trans (t3.trans t4)).like hlike4⟩
            cases e3 <;> simp [jumpOf] at hj <;> subst hj <;> exact ⟨_, _, hend, hall⟩
      · simp at h
    · simp at h
  · simp at h
end Go.Cln
