/- A determinate reading of Go's code: it is what the model does. -/
import Derived.Test.YtpfmilkddapfiaaClnP16
namespace Go.Cln
set_option linter.unusedVariables false
set_option linter.unusedSimpArgs false
set_option linter.deprecated false
theorem run_takeMarks {P : Program} {w : World} {r : Nat} (h : w.heap[r]? = some (.deferred (some []))) : (Instr.takeDeferred r).run P w = .ok [] { w with heap := w.heap.setIfInBounds r (.deferred none) } := by
  simp [Instr.takeDeferred, getObj, setObj, Sem.run, h]
theorem dropMarks_obl : ∀ {l : List Nat} {s s' : St}, dropMarks s l = some s' → s'.obl → s.obl
  | [], s, s', h => by simp [dropMarks] at h; subst h; exact id
  | d :: l, s, s', h => by
    simp only [dropMarks] at h
    split at h
    · split at h
      · rw [bind_some] at h
        obtain ⟨s1, h1, h⟩ := h
        exact fun k => setOb_obl h1 (dropMarks_obl h k)
      · simp at h
    · simp at h
theorem dropMarks_may : ∀ {l : List Nat} {s s' : St}, dropMarks s l = some s' → ∀ d ∈ l, s.may d = true
  | [], s, s', h => fun d hd => by simp at hd
  | d :: l, s, s', h => by
    simp only [dropMarks] at h
    split at h
    · split at h
      · rename_i hm
        rw [bind_some] at h
        obtain ⟨s1, h1, h⟩ := h
        obtain ⟨_, m2, m3, _⟩ := St.setOb_spec h1
        intro x hx
        rcases List.mem_cons.1 hx with rfl | hx
        · exact hm
        · rw [← may_of m2 m3]; exact dropMarks_may h x hx
      · simp at h
    · simp at h
theorem dropMarks_dm : ∀ {l : List Nat} {s s' : St}, dropMarks s l = some s' → Dm s' = Dm s
  | [], s, s', h => by simp [dropMarks] at h; subst h; rfl
  | d :: l, s, s', h => by
    simp only [dropMarks] at h
    split at h
    · split at h
      · rw [bind_some] at h
        obtain ⟨s1, h1, h⟩ := h
        exact (dropMarks_dm h).trans (St.setOb_dm h1)
      · simp at h
    · simp at h
theorem dropMarks_spec : ∀ {l : List Nat} {s s' : St}, dropMarks s l = some s' → s'.next = s.next ∧ s'.tmps = s.tmps
  | [], s, s', h => by simp [dropMarks] at h; subst h; exact ⟨rfl, rfl⟩
  | d :: l, s, s', h => by
    simp only [dropMarks] at h
    split at h
    · split at h
      · rw [bind_some] at h
        obtain ⟨s1, h1, h⟩ := h
        obtain ⟨m1, _, _, _, _, m6, _⟩ := St.setOb_spec h1
        obtain ⟨a, b⟩ := dropMarks_spec h
        exact ⟨a.trans m1, b.trans m6⟩
      · simp at h
    · simp at h
theorem dropMarks_sound {P : Program} {fn : Func} {tmps : Array Value} {R : Ending → World → Prop} {n : Nat} : ∀ {l : List Nat} {s s' : St} {ρ : Nat → PB} {w : World}, dropMarks s l = some s' → Hs s ρ w → (∀ d ∈ l, s.may d = true) → (∀ d ∈ l, d < s.next) →
    (∀ w', Hs s' ρ w' → Tra s s' ρ ρ w w' → LeavesInM Fence.wide n P fn tmps R [] .returning w') → LeavesInM Fence.wide n P fn tmps R (marksOf ρ l) .returning w
  | [], s, s', ρ, w, h, hs, hm, hl, hk => by simp [dropMarks] at h; subst h; exact hk w hs (Tra.refl _ _ _)
  | d :: l, s, s', ρ, w, h, hs, hm, hl, hk => by
    simp only [dropMarks] at h
    split at h
    · rename_i hd
      split at h
      case isFalse => simp at h
      rw [bind_some] at h
      obtain ⟨s1, h1, h⟩ := h
      have md := St.setOb_dm h1
      obtain ⟨m1, m2, m3, m4, m5, m6, m7, m8, m9⟩ := St.setOb_spec h1
      have hob := (hs.ob d _ hd).2
      have hw : w.heap[(ρ d).blk]? = some (.deferred (some [])) := hob
      have hmay := hm d (by simp)
      have hother : ∀ k, k ≠ (ρ d).blk → ({ w with heap := w.heap.setIfInBounds (ρ d).blk (.deferred none) } : World).heap[k]? = w.heap[k]? := fun k hk => by
        simp [Array.getElem?_setIfInBounds]; intro e; exact absurd e.symm hk
      have hlive : ∀ (c : Nat) (x : Ob), s1.heap.get c = some x → c ≠ d ∧ s.heap.get c = some x := fun c x hx => by
        rw [m8] at hx
        by_cases hc : c = d
        · rw [if_pos hc] at hx; cases hx
        · rw [if_neg hc] at hx; exact ⟨hc, hx⟩
      have hs1 : Hs s1 ρ { w with heap := w.heap.setIfInBounds (ρ d).blk (.deferred none) } := by
        refine ⟨⟨fun c x hx => ?_, fun c c' x x' hx hx' hk e => hs.inj c c' x x' (hlive c x hx).2 (hlive c' x' hx').2 (by rw [m2] at hk; exact hk) e, fun c c' x x' B hx hB hx' hk => hs.far c c' x x' B (hlive c x hx).2 hB (hlive c' x' hx').2 (by rw [m2] at hk; exact hk)⟩, fun b hb => by rw [m9]; exact hs.hid b (by omega), by rw [m2, m3, m1]; exact hs.wf⟩
        obtain ⟨hcd, hx'⟩ := hlive c x hx
        obtain ⟨o1, o2⟩ := hs.ob c x hx'
        rw [md, m2]
        exact ⟨o1, o2.congr id (fun q => hother _ fun e => hcd (hs.injM hx' hd (may_ro hmay) e q)) (by simp) fun B hB => hother B fun e => hs.far c d x _ B hx' hB hd (may_ro hmay) e.symm⟩
      have t1 : Tra s s1 ρ ρ w { w with heap := w.heap.setIfInBounds (ρ d).blk (.deferred none) } := by
        refine ⟨by omega, fun _ _ => rfl, rfl, rfl, rfl, by simp, fun k _ hn => hother k fun e => hn d _ hd hmay e.symm, fun c x hx hmc => .inr ⟨c, x, (hlive c x hx).2, (may_of m2 m3 c) ▸ hmc, rfl⟩, m2, m3, m9, fun c hc => by rw [m8, if_neg (fun e => by rw [e, hmay] at hc; cases hc)]⟩
      simp only [marksOf, List.map_cons, LeavesInM]
      refine ⟨by simp, .inl ⟨(ρ d).blk, _, rfl, run_takeMarks hw, ?_⟩⟩
      exact dropMarks_sound h hs1 (fun x hx => by rw [may_of m2 m3]; exact hm x (by simp [hx])) (fun x hx => by rw [m1]; exact hl x (by simp [hx])) fun w' g1 g2 => hk w' g1 (t1.trans g2)
    · simp at h
theorem results_obl {P : Program} : ∀ {l : List ResultVar} {s s' : St} {vs : List Value}, results1 P s l = some (vs, s') → s'.obl → s.obl
  | [], s, s', vs, h => by simp [results1] at h; obtain ⟨_, rfl⟩ := h; exact id
  | .tmp t :: l, s, s', vs, h => by
    simp only [results1, bind_some] at h
    obtain ⟨⟨r, s1⟩, h1, h⟩ := h
    simp only [Option.some.injEq, Prod.mk.injEq] at h; obtain ⟨_, rfl⟩ := h
    exact results_obl h1
  | .cell a t :: l, s, s', vs, h => by
    simp only [results1, bind_some] at h
    obtain ⟨⟨q, s1⟩, h1, ⟨r, s2⟩, h2, h⟩ := h
    simp only [Option.some.injEq, Prod.mk.injEq] at h; obtain ⟨_, rfl⟩ := h
    exact fun k => doLoad_obl h1 (results_obl h2 k)
theorem getD_list (a : Array Value) (t : Nat) : a.getD t undef = a.toList.getD t undef := by simp [Array.getD_eq_getD_getElem?, List.getD_eq_getElem?_getD]
theorem getD_sound {N : Nat → Prop} {ρ : Nat → PB} {l : List Value} {a : Array Value} (h : VL N ρ l a.toList) (t : Nat) : VR N ρ (l.getD t undef) (a.getD t undef) := by
  have := ev_sound (s := ⟨l, [], .leaf, 0, 0, [], fun _ => false, True, []⟩) (a := ⟨a, []⟩) (x := .tmp t) h rfl
  rw [getL_eq] at this; exact this
def resOne (P : Program) (tmps : Array Value) (r : ResultVar) : Sem Value := match r with
  | .tmp t => pure (tmps.getD t undef)
  | .cell a t => do loadVar t (← asAddr (tmps.getD a undef))
theorem results1_sound {P : Program} {tmps : Array Value} : ∀ {l : List ResultVar} {s s' : St} {vs : List Value} {ρ : Nat → PB} {w : World}, results1 P s l = some (vs, s') → s'.obl → Hs s ρ w → VL (Dm s) ρ s.tmps tmps.toList →
    Like s s' ∧ ∃ vs', (l.mapM (resOne P tmps)).run P w = .ok vs' w ∧ VL (Dm s) ρ vs vs'
  | [], s, s', vs, ρ, w, h, ho, hs, ht => by
    simp [results1] at h; obtain ⟨rfl, rfl⟩ := h
    exact ⟨Like.refl _, [], rfl, VL.nil⟩
  | .tmp t :: l, s, s', vs, ρ, w, h, ho, hs, ht => by
    simp only [results1, bind_some] at h
    obtain ⟨⟨r, s1⟩, h1, h⟩ := h
    simp only [Option.some.injEq, Prod.mk.injEq] at h; obtain ⟨rfl, rfl⟩ := h
    obtain ⟨k, vs', hr, hv⟩ := results1_sound h1 ho hs ht
    refine ⟨k, tmps.getD t undef :: vs', ?_, VL.cons (getD_sound ht t) hv⟩
    simp only [List.mapM_cons, resOne, Sem.run_bind, Sem.run_pure, Result.andThen_ok, hr]
  | .cell a t :: l, s, s', vs, ρ, w, h, ho, hs, ht => by
    simp only [results1, bind_some] at h
    obtain ⟨⟨q, s1⟩, h1, ⟨r, s2⟩, h2, h⟩ := h
    simp only [Option.some.injEq, Prod.mk.injEq] at h; obtain ⟨rfl, rfl⟩ := h
    obtain ⟨k1, k2, k3, k4⟩ := doLoad_like h1
    have o1 := results_obl h2 ho
    obtain ⟨v', hr, hv⟩ := doLoad_sound h1 o1 hs (getD_sound ht a)
    obtain ⟨k, vs', hr2, hv2⟩ := results1_sound (tmps := tmps) (ρ := ρ) (w := w) h2 ho (k1.holds hs) (by rw [k1.dm, k2]; exact ht)
    refine ⟨k1.trans k, v' :: vs', ?_, VL.cons hv (by rw [k1.dm] at hv2; exact hv2)⟩
    have hload : (resOne P tmps (.cell a t)).run P w = .ok v' w := by
      simp only [resOne]
      have : Instr.loadAt t (tmps.getD a undef) = (do loadVar t (← Instr.sureAddr (tmps.getD a undef))) := rfl
      rw [this] at hr
      have hp : ∃ p, tmps.getD a undef = .pointer (some p) := by
        generalize tmps.getD a undef = z at hr
        cases z <;> simp [Instr.sureAddr] at hr
        rename_i p
        cases p with
        | none => simp [Instr.sureAddr] at hr
        | some p => exact ⟨p, rfl⟩
      obtain ⟨p, hp⟩ := hp
      rw [hp] at hr ⊢
      simpa [Instr.sureAddr, asAddr] using hr
    simp only [List.mapM_cons, Sem.run_bind, hload, Result.andThen_ok, hr2, Sem.run_pure]
theorem oneOf_sound {N : Nat → Prop} {ρ : Nat → PB} {vs vs' : List Value} (h : VL N ρ vs vs') : VR N ρ (oneOf vs) (if h : vs'.toArray.size = 1 then vs'.toArray[0] else .tuple vs'.toArray) := by
  match vs, vs', h with
  | [], vs', h => rw [h.inv_nil]; exact .tup rfl VL.nil.2
  | [v], vs', h =>
    obtain ⟨w, r, rfl, h1, h2⟩ := h.inv_cons
    rw [h2.inv_nil]; exact h1
  | v :: u :: l, vs', h =>
    obtain ⟨w, r, rfl, h1, h2⟩ := h.inv_cons
    obtain ⟨w2, r2, rfl, h3, h4⟩ := h2.inv_cons
    have : (w :: w2 :: r2).toArray.size ≠ 1 := by simp
    rw [dif_neg this]
    exact .tup h.1 h.2
theorem results_run {P : Program} {fn : Func} {tmps : Array Value} {vs' : List Value} {w : World} (h : (fn.results.toList.mapM (resOne P tmps)).run P w = .ok vs' w) :
    (results fn tmps).run P w = .ok (if h : vs'.toArray.size = 1 then vs'.toArray[0] else .tuple vs'.toArray) w := by
  have e : results fn tmps = (do let vs ← fn.results.mapM (resOne P tmps); pure (if h : vs.size = 1 then vs[0] else .tuple vs)) := by
    unfold results
    congr 1
  rw [e, Array.mapM_eq_mapM_toList]
  simp only [Sem.run_bind, Sem.run_map, h, Result.andThen_ok, Sem.run_pure]
theorem stepCall_obl {P : Program} {ih : Orc} (hi : OrcObl ih) {f : FuncId} {args : List Value} {s s' : St} {v : Value} (h : stepCall P ih f args s = some (v, s')) : s'.obl → s.obl := by
  unfold stepCall at h
  split at h
  · simp at h
  · split at h
    · simp at h
    · split at h
      · rw [bind_some] at h
        obtain ⟨⟨e, s1⟩, h1, h⟩ := h
        split at h
        · rw [bind_some] at h
          obtain ⟨s2, h2, h⟩ := h
          rw [bind_some] at h
          obtain ⟨⟨r, s3⟩, h3, h⟩ := h
          simp only [Option.some.injEq, Prod.mk.injEq] at h; obtain ⟨_, rfl⟩ := h
          exact fun k => by have := hi.code h1 (dropMarks_obl h2 (results_obl h3 k)); exact this
        · simp at h
      · simp at h
theorem stepCall_sound {P : Program} {ih : Orc} (hi : OrcOk P ih) {f : FuncId} {args : List Value} {s s' : St} {v : Value} (h : stepCall P ih f args s = some (v, s')) : CallOk P f args s v s' := by
  intro ho n ρ w args' hs ha
  unfold stepCall at h
  split at h
  · simp at h
  · rename_i fn hfn
    split at h
    · simp at h
    · rename_i c hc
      split at h
      · rename_i hlen
        rw [bind_some] at h
        obtain ⟨⟨e, s1⟩, h1, h⟩ := h
        split at h
        · rename_i hex
          rw [bind_some] at h
          obtain ⟨s2, h2, h⟩ := h
          rw [bind_some] at h
          obtain ⟨⟨r, s3⟩, h3, h⟩ := h
          simp only [Option.some.injEq, Prod.mk.injEq] at h; obtain ⟨rfl, rfl⟩ := h
          have o3 : s3.obl := ho
          have o2 := results_obl h3 o3
          have o1 := dropMarks_obl h2 o2
          refine callsIn_of_wp_marks hfn hc trivial ?_
          have l0 : Like s { s with tmps := args ++ List.replicate (fn.ntmps - args.length) undef, defers := [] } := ⟨rfl, rfl, rfl, rfl, rfl⟩
          have hrel : Rel { s with tmps := args ++ List.replicate (fn.ntmps - args.length) undef, defers := [] } ρ w { tmps := args'.toArray ++ Array.replicate (fn.ntmps - args'.toArray.size) undef, defers := [] } := by
            refine ⟨l0.holds hs, ?_, rfl, fun d hd => by simp at hd⟩
            have := ha.append (VL.replicate (N := Dm s) (ρ := ρ) VR.undef (fn.ntmps - args.length))
            rw [l0.dm]
            simpa [ha.1] using this
          refine hi.okCode (rd := none) h1 o1 n ρ w _ _ (fun l e => by cases e) hrel fun ρ1 w1 a1 r1 t1 => ?_
          have fin : LeavesInM Fence.wide n P fn a1.tmps (fun e w' => ∃ v' ρ', e = .returned v' ∧ VR (Dm ({ s3 with tmps := s.tmps, defers := s.defers } : St)) ρ' (oneOf r) v' ∧ Hs { s3 with tmps := s.tmps, defers := s.defers } ρ' w' ∧ Tra s { s3 with tmps := s.tmps, defers := s.defers } ρ ρ' w w') a1.defers .returning w1 := by
            rw [r1.defers]
            refine dropMarks_sound h2 r1.hs (dropMarks_may h2) r1.marks fun w2 g1 g2 => ?_
            have hspec := dropMarks_spec h2
            have ht2 : VL (Dm s2) ρ1 s2.tmps a1.tmps.toList := by rw [dropMarks_dm h2, hspec.2]; exact r1.tmps
            obtain ⟨k, vs', hr, hv⟩ := results1_sound (tmps := a1.tmps) h3 o3 g1 ht2
            simp only [LeavesInM]
            have l3 : Like s3 { s3 with tmps := s.tmps, defers := s.defers } := ⟨rfl, rfl, rfl, rfl, rfl⟩
            exact ⟨_, results_run hr, _, ρ1, rfl, by rw [l3.dm, k.dm]; exact oneOf_sound hv, l3.holds (k.holds g1), ((l0.thenTra t1).trans (g2.like (k.trans l3)))⟩
          cases e <;> first
            | exact fin
            | (simp [leaves?] at hex; done)
        · simp at h
      · simp at h
end Go.Cln
