/- A determinate reading of Go's code: each operation that calls nothing. -/
import Derived.Test.YtpfmilkddapfiaaClnE
namespace Go.Cln
set_option linter.unusedVariables false
set_option linter.unusedSimpArgs false
set_option linter.deprecated false
structure PG (P : Program) : Prop where
  zero : ∀ (t : TypeId) (z : Value), zeroOf P t = some z → Dflat z
  named : ∀ (f : FuncId) (fn : Func), P.funcs[f]? = some fn → fn.body.isSome = true → (fn.name == "runtime.NumGoroutine") = false
abbrev PureOut (P : Program) (N : Nat → Prop) (ρ : Nat → PB) (s s' : St) (a : Act) (o : Oper) (v : Value) : Prop :=
  Like s s' ∧ s'.tmps = s.tmps ∧ s'.defers = s.defers ∧ (s'.obl → s.obl ∧ ∃ v', (∀ w, (execOp a.eval o).run P w = .ok (.value v') w) ∧ VR N ρ v v')
theorem flat_out {P : Program} {N : Nat → Prop} {ρ : Nat → PB} {s s' : St} {a : Act} {o : Oper} {v : Value} (hs : ∀ cs b, o.op ≠ .select cs b) (ht : VL N ρ s.tmps a.tmps.toList) (h : doFlat P s o = some (v, s')) : PureOut P N ρ s s' a o v := by
  obtain ⟨rfl, hf, hr⟩ := doFlat_sound hs ht h
  exact ⟨Like.refl _, rfl, rfl, fun k => ⟨k, v, hr, VR.of_flat hf⟩⟩
theorem same_out {P : Program} {N : Nat → Prop} {ρ : Nat → PB} {s : St} {a : Act} {o : Oper} {v v' : Value} (hr : ∀ w, (execOp a.eval o).run P w = .ok (.value v') w) (hv : VR N ρ v v') : PureOut P N ρ s s a o v :=
  ⟨Like.refl _, rfl, rfl, fun k => ⟨k, v', hr, hv⟩⟩
theorem optEv {N : Nat → Prop} {ρ : Nat → PB} {s : St} {a : Act} {x : Option Operand} {v : Option (Option Value)} (ht : VL N ρ s.tmps a.tmps.toList) (h : x.map (ev s) = v) (hn : v ≠ some none) (hi : ∀ u, v.bind id = some u → ∃ n, intVal u = some n) :
    x.map a.eval = v.bind id := by
  cases x with
  | none => simp at h; subst h; rfl
  | some x =>
    simp at h; subst h
    cases hx : ev s x with
    | none => exact absurd (by rw [hx]) hn
    | some u =>
      have hr := ev_sound ht hx
      obtain ⟨n, hn⟩ := hi u (by simp [hx])
      obtain ⟨k, rfl⟩ := intVal_some hn
      simp [hr.eq_flat0 rfl]
theorem fastUn_flat {op : UnOp} {x v : Value} (h : fastUn op x = some v) : flat0 x = true := by
  unfold fastUn at h
  split at h
  · rfl
  · simp at h
theorem fastUn_run {P : Program} {op : UnOp} {x v : Value} (h : fastUn op x = some v) : (∀ w, (Op.unary op x).run P w = .ok v w) ∧ flat0 v = true := by
  unfold fastUn at h
  split at h
  · split at h
    · simp at h; subst h; exact ⟨fun w => rfl, rfl⟩
    · simp at h
  · simp at h
theorem fastConv_run {P : Program} {src dst : TypeId} {x v : Value} (h : fastConv P src dst x = some v) : (∀ w, (convert src dst x).run P w = .ok v w) ∧ flat0 v = true ∧ flat0 x = true := by
  unfold fastConv at h
  split at h
  · split at h
    · rename_i k hk
      split at h
      · rename_i hs
        obtain ⟨d, hd⟩ := Option.isSome_iff_exists.1 hs
        simp at h; subst h
        refine ⟨fun w => ?_, rfl, rfl⟩
        simp only [convert, Sem.run_bind, run_underlying hd, run_underlying hk, Result.andThen_ok]
        cases d <;> rfl
      · simp at h
    · simp at h
  · simp at h
theorem fastInt_run {P : Program} {op : BinOp} {t : TypeId} {k k' : IntKind} {a b : Int} {v : Value} {p q : Operand} (h : fastInt P op k k' a b = some v) (w : World) :
    (do eqGuard op t p q (.int k a) (.int k' b); binOp op t (.int k a) (.int k' b) : Sem Value).run P w = .ok v w := by
  unfold fastInt at h
  split at h
  all_goals first
    | (have hq := quiet_run h w
       simp only [eqGuard, binOp, Sem.run_bind]
       simpa using hq)
    | (split at h
       · rename_i hk
         subst hk
         first
           | (simp only [Option.some.injEq] at h; subst h
              simp [eqGuard, binOp, Op.intArith, Op.intCmp])
           | (have hq := quiet_run h w
              simp only [eqGuard, binOp, Sem.run_bind]
              simpa using hq)
       · simp at h)
theorem fitBin_run {P : Program} {K : Given} {op : BinOp} {t : TypeId} {x y : Value} {k : IntKind} {n : Int} {p q : Operand} (h : fitBin K op x y = some (k, n)) :
    (∀ w, (do eqGuard op t p q x y; binOp op t x y : Sem Value).run P w = .ok (.int k (k.wrap n)) w) ∧ flat0 x = true ∧ flat0 y = true := by
  unfold fitBin at h
  split at h
  · split at h
    · split at h
      · split at h
        · rename_i hkk
          subst hkk
          split at h
          · simp at h; obtain ⟨rfl, rfl⟩ := h
            exact ⟨fun w => by simp [eqGuard, binOp, Op.intArith], rfl, rfl⟩
          · simp at h; obtain ⟨rfl, rfl⟩ := h
            exact ⟨fun w => by simp [eqGuard, binOp, Op.intArith], rfl, rfl⟩
          · simp at h; obtain ⟨rfl, rfl⟩ := h
            exact ⟨fun w => by simp [eqGuard, binOp, Op.intArith], rfl, rfl⟩
          · simp at h
        · simp at h
      · simp at h
    · simp at h
  · simp at h
theorem remPin_spec {P : Program} {K : Given} {s s' : St} {op : BinOp} {t : TypeId} {x y v : Value} {p q : Operand} (h : remPin K s op x y = some (v, s')) :
    Like s s' ∧ s'.tmps = s.tmps ∧ s'.defers = s.defers ∧ flat0 x = true ∧ flat0 y = true ∧ flat0 v = true ∧ (s'.obl → s.obl ∧ ∀ w, (do eqGuard op t p q x y; binOp op t x y : Sem Value).run P w = .ok v w) := by
  unfold remPin at h
  split at h
  · split at h
    · split at h
      · split at h
        · split at h
          · split at h
            · rename_i hkk
              subst hkk
              split at h
              · simp only [Option.some.injEq, Prod.mk.injEq] at h
                obtain ⟨rfl, rfl⟩ := h
                refine ⟨⟨rfl, rfl, rfl, rfl, rfl⟩, rfl, rfl, rfl, rfl, rfl, fun k => ⟨k.1, fun w => ?_⟩⟩
                obtain ⟨_, h1, h2⟩ := k
                simp [eqGuard, binOp, Op.intDiv, h1, h2]
              · cases h
            · cases h
          · cases h
        · cases h
      · cases h
    · cases h
  · cases h
theorem fitConv_run {P : Program} {K : Given} {src dst : TypeId} {x : Value} {k : IntKind} {n : Int} (h : fitConv P K src dst x = some (k, n)) : (∀ w, (convert src dst x).run P w = .ok (.int k (k.wrap n)) w) ∧ flat0 x = true := by
  unfold fitConv at h
  split at h
  · split at h
    · split at h
      · rename_i k2 hk2
        split at h
        · rename_i hs
          obtain ⟨d, hd⟩ := Option.isSome_iff_exists.1 hs
          simp at h; obtain ⟨rfl, rfl⟩ := h
          refine ⟨fun w => ?_, rfl⟩
          simp only [convert, Sem.run_bind, run_underlying hd, run_underlying hk2, Result.andThen_ok]
          cases d <;> simp [Conv.intToInt]
        · simp at h
      · simp at h
    · simp at h
  · simp at h
theorem fitted_spec {s s' : St} {r : IntKind × Int} {v : Value} (h : fitted s r = some (v, s')) : ∃ x, v = .int r.1 x ∧ Like s s' ∧ s'.tmps = s.tmps ∧ s'.defers = s.defers ∧ (s'.obl → s.obl ∧ x = r.1.wrap r.2) := by
  obtain ⟨k, x⟩ := r
  simp only [fitted] at h
  split at h
  · split at h
    · simp only [Option.some.injEq, Prod.mk.injEq] at h; obtain ⟨rfl, rfl⟩ := h
      exact ⟨_, rfl, ⟨rfl, rfl, rfl, rfl, rfl⟩, rfl, rfl, fun k => ⟨k.1, k.2.symm⟩⟩
    · cases h
  · simp only [Option.some.injEq, Prod.mk.injEq] at h; obtain ⟨rfl, rfl⟩ := h
    exact ⟨_, rfl, ⟨rfl, rfl, rfl, rfl, rfl⟩, rfl, rfl, fun k => ⟨k.1, k.2.symm⟩⟩
  · simp only [Option.some.injEq, Prod.mk.injEq] at h; obtain ⟨rfl, rfl⟩ := h
    exact ⟨_, rfl, ⟨rfl, rfl, rfl, rfl, rfl⟩, rfl, rfl, fun k => ⟨k, rfl⟩⟩
  · simp only [Option.some.injEq, Prod.mk.injEq] at h; obtain ⟨rfl, rfl⟩ := h
    exact ⟨_, rfl, Like.refl _, rfl, rfl, fun k => ⟨k, rfl⟩⟩
theorem doMax_spec {s s' : St} {vs : List Value} {v : Value} (h : doMax s vs = some (v, s')) : ∃ k k' x y, vs = [.int k x, .int k' y] ∧ Like s s' ∧ s'.tmps = s.tmps ∧ s'.defers = s.defers ∧ flat0 v = true ∧ (s'.obl → s.obl ∧ v = .int k (if y > x then y else x)) := by
  unfold doMax at h
  split at h
  · rename_i k x k' y
    rw [bind_some] at h
    obtain ⟨⟨e, s1⟩, hb, h⟩ := h
    obtain ⟨k1, k2, k3, k4⟩ := St.branch_spec hb
    have h : some (Value.int k (if e then y else x), s1) = some (v, s') := by cases e <;> exact h
    simp only [Option.some.injEq, Prod.mk.injEq] at h; obtain ⟨rfl, rfl⟩ := h
    refine ⟨k, k', x, y, rfl, k1, k2, k3, rfl, fun ho => ⟨(k4 ho).1, ?_⟩⟩
    have := (k4 ho).2
    subst this
    by_cases hxy : y > x <;> simp [hxy]
  · simp at h
theorem doMin_spec {s s' : St} {vs : List Value} {v : Value} (h : doMin s vs = some (v, s')) : ∃ k k' x y, vs = [.int k x, .int k' y] ∧ Like s s' ∧ s'.tmps = s.tmps ∧ s'.defers = s.defers ∧ flat0 v = true ∧ (s'.obl → s.obl ∧ v = .int k (if y < x then y else x)) := by
  unfold doMin at h
  split at h
  · rename_i k x k' y
    rw [bind_some] at h
    obtain ⟨⟨e, s1⟩, hb, h⟩ := h
    obtain ⟨k1, k2, k3, k4⟩ := St.branch_spec hb
    have h : some (Value.int k (if e then y else x), s1) = some (v, s') := by cases e <;> exact h
    simp only [Option.some.injEq, Prod.mk.injEq] at h; obtain ⟨rfl, rfl⟩ := h
    refine ⟨k, k', x, y, rfl, k1, k2, k3, rfl, fun ho => ⟨(k4 ho).1, ?_⟩⟩
    have := (k4 ho).2
    subst this
    by_cases hxy : y < x <;> simp [hxy]
  · simp at h
theorem fastBin_run {P : Program} {op : BinOp} {t : TypeId} {x y v : Value} {p q : Operand} (h : fastBin P op x y = some v) :
    (∀ w, (do eqGuard op t p q x y; binOp op t x y : Sem Value).run P w = .ok v w) ∧ flat0 v = true ∧ flat0 x = true ∧ flat0 y = true := by
  unfold fastBin at h
  split at h
  · split at h
    · split at h
      · rename_i r hr
        split at h
        · rename_i hf; simp at h; subst h; exact ⟨fun w => fastInt_run hr w, hf, rfl, rfl⟩
        · simp at h
      · simp at h
    · simp at h
  · simp at h
theorem doArrayAt_sound {P : Program} {s s' : St} {t : TypeId} {x x' v : Value} {N : Nat → Prop} {ρ : Nat → PB} (h : doArrayAt P s t x = some (v, s')) (hx : VR N ρ x x') :
    Like s s' ∧ s'.tmps = s.tmps ∧ s'.defers = s.defers ∧ (s'.obl → s.obl ∧ ∃ v', (∀ w, (Instr.arrayAt t x').run P w = .ok v' w) ∧ VR N ρ v v') := by
  unfold doArrayAt at h
  split at h
  · rename_i n e b o g len cap hu
    split at h
    · cases h
    rename_i hga
    rw [bind_some] at h
    obtain ⟨s1, hn, h⟩ := h
    simp at h; obtain ⟨rfl, rfl⟩ := h
    obtain ⟨k1, k2, k3, k4⟩ := St.need_spec hn
    refine ⟨k1, k2, k3, fun k => ⟨(k4 k).1, ?_⟩⟩
    have hlen := (k4 k).2
    cases hx with
    | same hf => simp [flat0] at hf
    | slice hN hle hok =>
      rename_i c' a'
      have hc : c' ≠ 0 := by have := hok.le; omega
      rcases hok.1 with e' | e'
      · exact absurd e' hc
      · subst e'
        exact ⟨_, fun w => by simp [Instr.arrayAt, Sem.run_bind, run_underlying hu, show ¬ len < n + 1 by omega], .ptr hN⟩
    | abs _ hg _ => exact absurd hg hga
  · simp at h
theorem pure_sound {P : Program} (G : PG P) {K : Given} {ih : Orc} {N : Nat → Prop} {ρ : Nat → PB} {s s' : St} {a : Act} {o : Oper} {v : Value} (hp : pureOp P o.op = true) (h : doOp P K ih s o = some (v, s')) (ht : VL N ρ s.tmps a.tmps.toList) :
    PureOut P N ρ s s' a o v := by
  obtain ⟨dst, op, type, pos, after, guard⟩ := o
  cases op
  case move x =>
    simp only [doOp, oMove, oPick, oAlloc, oBox, oLoad, oStore, oNilCheck, oMakeFunc, oFieldAddr, oIndexAddr, oSlice, oArrayAt, oMakeSlice, oField, oIndex, oExtract, oConvert, oEq, oBin, oUn, oBuiltin, oCall, oLookup, oMapUpdate, oMapEntry, oEntryStore, bind_some] at h
    obtain ⟨u, hu, h⟩ := h
    simp at h; obtain ⟨rfl, rfl⟩ := h
    exact same_out (fun w => rfl) (ev_sound ht hu)
  case assign x =>
    simp only [doOp, oMove, oPick, oAlloc, oBox, oLoad, oStore, oNilCheck, oMakeFunc, oFieldAddr, oIndexAddr, oSlice, oArrayAt, oMakeSlice, oField, oIndex, oExtract, oConvert, oEq, oBin, oUn, oBuiltin, oCall, oLookup, oMapUpdate, oMapEntry, oEntryStore, bind_some] at h
    obtain ⟨u, hu, h⟩ := h
    simp at h; obtain ⟨rfl, rfl⟩ := h
    exact same_out (fun w => rfl) (ev_sound ht hu)
  case pick c x y =>
    simp only [doOp, oMove, oPick, oAlloc, oBox, oLoad, oStore, oNilCheck, oMakeFunc, oFieldAddr, oIndexAddr, oSlice, oArrayAt, oMakeSlice, oField, oIndex, oExtract, oConvert, oEq, oBin, oUn, oBuiltin, oCall, oLookup, oMapUpdate, oMapEntry, oEntryStore, bind_some] at h
    obtain ⟨cv, hc, av, ha, bv, hb, h⟩ := h
    have rc := ev_sound ht hc
    have ra := ev_sound ht ha
    have rb := ev_sound ht hb
    split at h
    · rw [bind_some] at h
      obtain ⟨⟨e, s1⟩, hb1, h⟩ := h
      simp only [Option.some.injEq, Prod.mk.injEq] at h; obtain ⟨rfl, rfl⟩ := h
      obtain ⟨k1, k2, k3, k4⟩ := St.branch_spec hb1
      refine ⟨k1, k2, k3, fun k => ⟨(k4 k).1, (if e then a.eval x else a.eval y), fun w => ?_, ?_⟩⟩
      · have e1 := rc.eq_flat0 rfl
        rw [(k4 k).2] at e1
        simp only [execOp, e1, asBool, Sem.run_bind, Sem.run_pure, Result.andThen_ok]
      · cases e
        · exact rb
        · exact ra
    · simp at h
  case nilCheck x =>
    simp only [doOp, oMove, oPick, oAlloc, oBox, oLoad, oStore, oNilCheck, oMakeFunc, oFieldAddr, oIndexAddr, oSlice, oArrayAt, oMakeSlice, oField, oIndex, oExtract, oConvert, oEq, oBin, oUn, oBuiltin, oCall, oLookup, oMapUpdate, oMapEntry, oEntryStore, bind_some] at h
    obtain ⟨u, hu, h⟩ := h
    have r := ev_sound ht hu
    split at h
    · simp at h; obtain ⟨rfl, rfl⟩ := h
      have hx2 : ∃ p, a.eval x = .pointer (some p) := by
        generalize a.eval x = z at r
        cases r with
        | same hf => simp [flat0] at hf
        | ptr _ => exact ⟨_, rfl⟩
        | absP _ _ => exact ⟨_, rfl⟩
      obtain ⟨p, he⟩ := hx2
      exact same_out (v' := a.eval x) (fun w => by simp only [execOp, he]; rfl) r
    · simp at h; obtain ⟨rfl, rfl⟩ := h
      rename_i f x0 y0
      have hx2 : ∃ p q, a.eval x = .func (.func f) p q := by
        generalize a.eval x = z at r
        cases r with
        | same _ => exact ⟨_, _, rfl⟩
        | fn _ _ _ _ => exact ⟨_, _, rfl⟩
      obtain ⟨p, q, he⟩ := hx2
      exact same_out (v' := a.eval x) (fun w => by simp only [execOp, he]; rfl) r
    · simp at h; obtain ⟨rfl, rfl⟩ := h
      rename_i l x0 y0
      have hx2 : ∃ l p q, a.eval x = .func (.yield l) p q := by
        generalize a.eval x = z at r
        cases r with
        | same hf => simp [flat0] at hf
        | yield _ => exact ⟨_, _, _, rfl⟩
      obtain ⟨l, p, q, he⟩ := hx2
      exact same_out (v' := a.eval x) (fun w => by simp only [execOp, he]; rfl) r
    · simp at h
  case makeFunc fn first cap =>
    cases fn <;> simp only [doOp, oMove, oPick, oAlloc, oBox, oLoad, oStore, oNilCheck, oMakeFunc, oFieldAddr, oIndexAddr, oSlice, oArrayAt, oMakeSlice, oField, oIndex, oExtract, oConvert, oEq, oBin, oUn, oBuiltin, oCall, oLookup, oMapUpdate, oMapEntry, oEntryStore] at h <;> try (exact flat_out (by intro _ _ h; cases h) ht h)
    rw [bind_some] at h
    obtain ⟨va, hva, h⟩ := h
    rw [bind_some] at h
    obtain ⟨vb, hvb, h⟩ := h
    simp at h; obtain ⟨rfl, rfl⟩ := h
    have ra := evs_sound ht hva
    have rb := evs_sound ht hvb
    refine same_out (v' := .func (.func _) (first.map a.eval) (cap.map a.eval)) (fun w => rfl) (.fn ?_ ?_ ?_ ?_)
    · simpa using ra.1
    · intro i x y hx hy; exact ra.2 i x y (by simpa using hx) (by simpa using hy)
    · simpa using rb.1
    · intro i x y hx hy; exact rb.2 i x y (by simpa using hx) (by simpa using hy)
  case fieldAddr t x f =>
    simp only [doOp, oMove, oPick, oAlloc, oBox, oLoad, oStore, oNilCheck, oMakeFunc, oFieldAddr, oIndexAddr, oSlice, oArrayAt, oMakeSlice, oField, oIndex, oExtract, oConvert, oEq, oBin, oUn, oBuiltin, oCall, oLookup, oMapUpdate, oMapEntry, oEntryStore, bind_some] at h
    obtain ⟨u, hu, h⟩ := h
    obtain ⟨rfl, v', hr, hv⟩ := doFieldAddr_sound h (ev_sound ht hu)
    exact same_out (fun w => by simp only [execOp, Sem.run_bind, hr, Result.andThen_ok, Sem.run_pure]) hv
  case indexAddr t x ix =>
    simp only [doOp, oMove, oPick, oAlloc, oBox, oLoad, oStore, oNilCheck, oMakeFunc, oFieldAddr, oIndexAddr, oSlice, oArrayAt, oMakeSlice, oField, oIndex, oExtract, oConvert, oEq, oBin, oUn, oBuiltin, oCall, oLookup, oMapUpdate, oMapEntry, oEntryStore, bind_some] at h
    obtain ⟨u, hu, i, hi, h⟩ := h
    have hi2 : ∃ n, intVal i = some n := by
      unfold doIndexAddr at h
      split at h
      · simp at h
      · rename_i n hn; exact ⟨n, hn⟩
    obtain ⟨n, hn⟩ := hi2
    obtain ⟨k, rfl⟩ := intVal_some hn
    have ei := (ev_sound ht hi).eq_flat0 rfl
    obtain ⟨k1, k2, k3, k4⟩ := doIndexAddr_sound h (ev_sound ht hu)
    refine ⟨k1, k2, k3, fun k => ?_⟩
    obtain ⟨c, v', hr, hv⟩ := k4 k
    exact ⟨c, v', fun w => by simp only [execOp, ei, Sem.run_bind, hr, Result.andThen_ok, Sem.run_pure], hv⟩
  case sliceToArrayPointer t x =>
    simp only [doOp, oMove, oPick, oAlloc, oBox, oLoad, oStore, oNilCheck, oMakeFunc, oFieldAddr, oIndexAddr, oSlice, oArrayAt, oMakeSlice, oField, oIndex, oExtract, oConvert, oEq, oBin, oUn, oBuiltin, oCall, oLookup, oMapUpdate, oMapEntry, oEntryStore, bind_some] at h
    obtain ⟨u, hu, h⟩ := h
    obtain ⟨k1, k2, k3, k4⟩ := doArrayAt_sound h (ev_sound ht hu)
    refine ⟨k1, k2, k3, fun k => ?_⟩
    obtain ⟨c, v', hr, hv⟩ := k4 k
    exact ⟨c, v', fun w => by simp only [execOp, Sem.run_bind, hr, Result.andThen_ok, Sem.run_pure], hv⟩
  case slice t x lo hi mx =>
    cases mx with
    | none =>
      simp only [doOp, oMove, oPick, oAlloc, oBox, oLoad, oStore, oNilCheck, oMakeFunc, oFieldAddr, oIndexAddr, oSlice, oArrayAt, oMakeSlice, oField, oIndex, oExtract, oConvert, oEq, oBin, oUn, oBuiltin, oCall, oLookup, oMapUpdate, oMapEntry, oEntryStore, bind_some] at h
      obtain ⟨u, hu, h⟩ := h
      split at h
      · exact flat_out (by intro _ _ h; cases h) ht h
      · exact flat_out (by intro _ _ h; cases h) ht h
      · split at h
        · simp at h
        · simp at h
        · rename_i hl hh
          have hints : (∀ u, (lo.map (ev s)).bind id = some u → ∃ n, intVal u = some n) ∧ (∀ u, (hi.map (ev s)).bind id = some u → ∃ n, intVal u = some n) := by
            unfold doSlice at h
            split at h
            all_goals first
              | (simp at h; done)
              | (obtain ⟨l, k, m, e1, e2, _⟩ := cutSlice_spec h
                 refine ⟨fun u hu => ?_, fun u hu => ?_⟩
                 · rw [hu] at e1; exact ⟨l, e1⟩
                 · rw [hu] at e2; exact ⟨k, e2⟩)
          have el := optEv ht rfl (fun e => hl e) hints.1
          have eh := optEv ht rfl (fun e => hh e) hints.2
          obtain ⟨k1, k2, k3, k4⟩ := doSlice_sound h (ev_sound ht hu)
          refine ⟨k1, k2, k3, fun k => ?_⟩
          obtain ⟨c, v', hr, hv⟩ := k4 k
          exact ⟨c, v', fun w => by simp only [execOp, el, eh, Option.map_none, Sem.run_bind, hr, Result.andThen_ok, Sem.run_pure], hv⟩
    | some m =>
      simp only [doOp, oMove, oPick, oAlloc, oBox, oLoad, oStore, oNilCheck, oMakeFunc, oFieldAddr, oIndexAddr, oSlice, oArrayAt, oMakeSlice, oField, oIndex, oExtract, oConvert, oEq, oBin, oUn, oBuiltin, oCall, oLookup, oMapUpdate, oMapEntry, oEntryStore, bind_some] at h
      obtain ⟨u, hu, mv, hm, h⟩ := h
      split at h
      · exact flat_out (by intro _ _ h; cases h) ht h
      · split at h
        · simp at h
        · simp at h
        · rename_i hl hh
          have hints : (∀ u, (lo.map (ev s)).bind id = some u → ∃ n, intVal u = some n) ∧ (∀ u, (hi.map (ev s)).bind id = some u → ∃ n, intVal u = some n) ∧ ∃ n, intVal mv = some n := by
            unfold doSlice3 at h
            split at h
            · unfold cutSlice3 at h
              split at h
              · rename_i l k m n h1 h2 h3 h4
                refine ⟨fun u hu => ?_, fun u hu => ?_, ?_⟩
                · rw [hu] at h1; exact ⟨l, h1⟩
                · rw [hu] at h2; exact ⟨k, by simpa using h2⟩
                · exact ⟨m, by simpa using h3⟩
              · simp at h
            · simp at h
          have el := optEv ht rfl (fun e => hl e) hints.1
          have eh := optEv ht rfl (fun e => hh e) hints.2.1
          obtain ⟨n, hn⟩ := hints.2.2
          obtain ⟨k, rfl⟩ := intVal_some hn
          have em := (ev_sound ht hm).eq_flat0 rfl
          obtain ⟨k1, k2, k3, k4⟩ := doSlice3_sound h (ev_sound ht hu)
          refine ⟨k1, k2, k3, fun k => ?_⟩
          obtain ⟨c, v', hr, hv⟩ := k4 k
          exact ⟨c, v', fun w => by simp only [execOp, el, eh, em, Option.map_some, Sem.run_bind, hr, Result.andThen_ok, Sem.run_pure], hv⟩
  case build t ps =>
    simp only [doOp, oMove, oPick, oAlloc, oBox, oLoad, oStore, oNilCheck, oMakeFunc, oFieldAddr, oIndexAddr, oSlice, oArrayAt, oMakeSlice, oField, oIndex, oExtract, oConvert, oEq, oBin, oUn, oBuiltin, oCall, oLookup, oMapUpdate, oMapEntry, oEntryStore] at h
    obtain ⟨rfl, v', hr, hv⟩ := doBuild_sound h ht (fun z hz => G.zero t z hz)
    exact same_out (fun w => by simp only [execOp, Sem.run_bind, hr, Result.andThen_ok, Sem.run_pure]) hv
  case field t x f =>
    simp only [doOp, oMove, oPick, oAlloc, oBox, oLoad, oStore, oNilCheck, oMakeFunc, oFieldAddr, oIndexAddr, oSlice, oArrayAt, oMakeSlice, oField, oIndex, oExtract, oConvert, oEq, oBin, oUn, oBuiltin, oCall, oLookup, oMapUpdate, oMapEntry, oEntryStore, bind_some] at h
    obtain ⟨u, hu, h⟩ := h
    obtain ⟨rfl, v', hr, hv⟩ := doField_sound h (ev_sound ht hu)
    exact same_out (fun w => by simp only [execOp, Sem.run_bind, hr, Result.andThen_ok, Sem.run_pure]) hv
  case index t x ix =>
    simp only [doOp, oMove, oPick, oAlloc, oBox, oLoad, oStore, oNilCheck, oMakeFunc, oFieldAddr, oIndexAddr, oSlice, oArrayAt, oMakeSlice, oField, oIndex, oExtract, oConvert, oEq, oBin, oUn, oBuiltin, oCall, oLookup, oMapUpdate, oMapEntry, oEntryStore, bind_some] at h
    obtain ⟨u, hu, i, hi, h⟩ := h
    split at h
    · have hi2 : ∃ n, intVal i = some n := by
        unfold doIndex at h
        split at h
        · rename_i hn; exact ⟨_, hn⟩
        · simp at h
      obtain ⟨n, hn⟩ := hi2
      obtain ⟨k, rfl⟩ := intVal_some hn
      have ei := (ev_sound ht hi).eq_flat0 rfl
      obtain ⟨k1, k2, k3, k4⟩ := doIndex_sound h (ev_sound ht hu)
      refine ⟨k1, k2, k3, fun k => ?_⟩
      obtain ⟨c, v', hr, hv⟩ := k4 k
      exact ⟨c, v', fun w => by simp only [execOp, ei, Sem.run_bind, hr, Result.andThen_ok, Sem.run_pure], hv⟩
    · exact flat_out (by intro _ _ h; cases h) ht h
  case extract x i =>
    simp only [doOp, oMove, oPick, oAlloc, oBox, oLoad, oStore, oNilCheck, oMakeFunc, oFieldAddr, oIndexAddr, oSlice, oArrayAt, oMakeSlice, oField, oIndex, oExtract, oConvert, oEq, oBin, oUn, oBuiltin, oCall, oLookup, oMapUpdate, oMapEntry, oEntryStore, bind_some] at h
    obtain ⟨u, hu, h⟩ := h
    obtain ⟨rfl, v', hr, hv⟩ := doExtract_sound (P := P) h (ev_sound ht hu)
    exact same_out (fun w => by simp only [execOp, Sem.run_bind, hr, Result.andThen_ok, Sem.run_pure]) hv
  case unOp op t x =>
    simp only [doOp, oUn, bind_some] at h
    obtain ⟨u, hu, h⟩ := h
    split at h
    · rename_i r hr
      simp only [Option.some.injEq, Prod.mk.injEq] at h; obtain ⟨rfl, rfl⟩ := h
      obtain ⟨hrun, hfl⟩ := fastUn_run (P := P) hr
      have eu := (ev_sound ht hu).eq_flat0 (fastUn_flat hr)
      exact same_out (fun w => by simp only [execOp, eu, Sem.run_bind, hrun w, Result.andThen_ok, Sem.run_pure]) (.same hfl)
    · exact flat_out (by intro _ _ h; cases h) ht h
  case binOp op t x y ty =>
    simp only [doOp, oMove, oPick, oAlloc, oBox, oLoad, oStore, oNilCheck, oMakeFunc, oFieldAddr, oIndexAddr, oSlice, oArrayAt, oMakeSlice, oField, oIndex, oExtract, oConvert, oEq, oBin, oUn, oBuiltin, oCall, oLookup, oMapUpdate, oMapEntry, oEntryStore, bind_some] at h
    obtain ⟨u, hu, u2, hu2, h⟩ := h
    have eqcase : ∀ neg, doEq P s neg t u u2 = some (v, s') → op = eqOp neg → PureOut P N ρ s s' a ⟨dst, .binOp op t x y ty, type, pos, after, guard⟩ v := fun neg he hop => by
      obtain ⟨rfl, hv, hr⟩ := doEq_sound (p := x) (q := y) he (ev_sound ht hu) (ev_sound ht hu2)
      subst hop
      refine same_out (fun w => ?_) hv
      have := hr w
      simp only [execOp]
      rw [Sem.run_bind, this]; rfl
    have eqcase2 : ∀ neg, doEqAgg P s neg t u u2 = some (v, s') → op = eqOp neg → PureOut P N ρ s s' a ⟨dst, .binOp op t x y ty, type, pos, after, guard⟩ v := fun neg he hop => by
      obtain ⟨k1, k2, k3, k4⟩ := doEqAgg_sound (p := x) (q := y) he (ev_sound ht hu) (ev_sound ht hu2)
      subst hop
      refine ⟨k1, k2, k3, fun k => ⟨(k4 k).1, v, fun w => ?_, (k4 k).2.1⟩⟩
      have := (k4 k).2.2 w
      simp only [execOp]
      rw [Sem.run_bind, this]; rfl
    have eqcase3 : ∀ neg, softNil P s neg t u u2 = some (v, s') → op = eqOp neg → PureOut P N ρ s s' a ⟨dst, .binOp op t x y ty, type, pos, after, guard⟩ v := fun neg he hop => by
      obtain ⟨k1, k2, k3, k4⟩ := softNil_sound (p := x) (q := y) he (ev_sound ht hu) (ev_sound ht hu2)
      subst hop
      refine ⟨k1, k2, k3, fun k => ⟨(k4 k).1, v, fun w => ?_, (k4 k).2.1⟩⟩
      have := (k4 k).2.2 w
      simp only [execOp]
      rw [Sem.run_bind, this]; rfl
    split at h
    · rename_i r hr
      cases h
      obtain ⟨k1, k2, k3, f1, f2, f3, k4⟩ := remPin_spec (P := P) (t := t) (p := x) (q := y) hr
      have e1 := (ev_sound ht hu).eq_flat0 f1
      have e2 := (ev_sound ht hu2).eq_flat0 f2
      exact ⟨k1, k2, k3, fun k => ⟨(k4 k).1, _, fun w => by simp only [execOp, e1, e2]; rw [Sem.run_bind, (k4 k).2 w]; rfl, .same f3⟩⟩
    split at h
    · rename_i r hr
      obtain ⟨x0, rfl, k1, k2, k3, k4⟩ := fitted_spec h
      refine ⟨k1, k2, k3, fun k => ?_⟩
      obtain ⟨o1, ex⟩ := k4 k
      subst ex
      obtain ⟨hrun, f1, f2⟩ := fitBin_run (P := P) (t := t) (p := x) (q := y) hr
      have e1 := (ev_sound ht hu).eq_flat0 f1
      have e2 := (ev_sound ht hu2).eq_flat0 f2
      exact ⟨o1, _, fun w => by simp only [execOp, e1, e2]; rw [Sem.run_bind, hrun w]; rfl, .same rfl⟩
    split at h
    · rename_i r hr
      simp only [Option.some.injEq, Prod.mk.injEq] at h; obtain ⟨rfl, rfl⟩ := h
      obtain ⟨hrun, hfl, f1, f2⟩ := fastBin_run (P := P) (t := t) (p := x) (q := y) hr
      have e1 := (ev_sound ht hu).eq_flat0 f1
      have e2 := (ev_sound ht hu2).eq_flat0 f2
      exact same_out (fun w => by simp only [execOp, e1, e2]; rw [Sem.run_bind, hrun w]; rfl) (.same hfl)
    · split at h
      all_goals first
        | exact flat_out (by intro _ _ h; cases h) ht h
        | (split at h
           · rename_i r hr
             simp only [Option.some.injEq] at h; subst h
             first | exact eqcase false hr rfl | exact eqcase true hr rfl | exact eqcase2 false hr rfl | exact eqcase2 true hr rfl
           · first
               | exact flat_out (by intro _ _ h; cases h) ht h
               | (split at h
                  · rename_i r hr
                    simp only [Option.some.injEq] at h; subst h
                    first | exact eqcase3 false hr rfl | exact eqcase3 true hr rfl
                  · exact flat_out (by intro _ _ h; cases h) ht h))
  case convert src dst' x =>
    simp only [pureOp] at hp
    have hd : ∃ k, P.underlying dst' = some (.int k) := by
      split at hp
      · rename_i k hk; exact ⟨k, hk⟩
      · simp at hp
    obtain ⟨k, hk⟩ := hd
    simp only [doOp, oMove, oPick, oAlloc, oBox, oLoad, oStore, oNilCheck, oMakeFunc, oFieldAddr, oIndexAddr, oSlice, oArrayAt, oMakeSlice, oField, oIndex, oExtract, oConvert, oEq, oBin, oUn, oBuiltin, oCall, oLookup, oMapUpdate, oMapEntry, oEntryStore, bind_some] at h
    obtain ⟨u, hu, h⟩ := h
    have hnone : doConvert P s src dst' u = none := by
      unfold doConvert; rw [hk]; cases P.underlying src <;> simp
    have hsoft : softConvert P s src dst' u = none := by
      unfold softConvert
      split
      · split
        · split
          · rename_i h1 _ h2; rw [hk] at h2; cases h2
          · rfl
        · split
          · split
            · rename_i h1 _ h2; rw [hk] at h2; cases h2
            · rfl
          · rfl
      · split
        · split
          · rename_i h1 _ h2; rw [hk] at h2; cases h2
          · rfl
        · rfl
      · rfl
    split at h
    · rename_i r hr
      obtain ⟨x0, rfl, k1, k2, k3, k4⟩ := fitted_spec h
      refine ⟨k1, k2, k3, fun k => ?_⟩
      obtain ⟨o1, ex⟩ := k4 k
      subst ex
      obtain ⟨hrun, f1⟩ := fitConv_run hr
      have e1 := (ev_sound ht hu).eq_flat0 f1
      exact ⟨o1, _, fun w => by simp only [execOp, e1, Sem.run_bind, hrun w, Result.andThen_ok, Sem.run_pure], .same rfl⟩
    split at h
    · rename_i r hr
      simp only [Option.some.injEq, Prod.mk.injEq] at h; obtain ⟨rfl, rfl⟩ := h
      obtain ⟨hrun, hfl, f1⟩ := fastConv_run hr
      have e1 := (ev_sound ht hu).eq_flat0 f1
      exact same_out (fun w => by simp only [execOp, e1, Sem.run_bind, hrun w, Result.andThen_ok, Sem.run_pure]) (.same hfl)
    · rw [hsoft, hnone] at h
      exact flat_out (by intro _ _ h; cases h) ht h
  case call c =>
    obtain ⟨callee, args, argTypes⟩ := c
    cases callee with
    | builtin b =>
      cases b <;> simp [pureOp] at hp
      simp only [doOp, oMove, oPick, oAlloc, oBox, oLoad, oStore, oNilCheck, oMakeFunc, oFieldAddr, oIndexAddr, oSlice, oArrayAt, oMakeSlice, oField, oIndex, oExtract, oConvert, oEq, oBin, oUn, oBuiltin, oCall, oLookup, oMapUpdate, oMapEntry, oEntryStore, hp, Bool.false_eq_true, if_false, bind_some] at h
      obtain ⟨vs, hvs, h⟩ := h
      split at h
      · rename_i r hr
        simp only [Option.some.injEq] at h; subst h
        obtain ⟨rfl, v', hr, hv⟩ := doLen_sound (ty := type) hr (evs_sound ht hvs)
        refine same_out (fun w => ?_) hv
        simp only [execOp, resolve, Sem.run_bind, Sem.run_pure, Result.andThen_ok, invoke, builtin]
        have := hr w
        have e : (List.map a.eval args.toList).toArray = args.map a.eval := by apply Array.ext'; simp
        rw [e] at this
        rw [this]; rfl
      · exact flat_out (by intro _ _ h; cases h) ht h
    | value f => simp [pureOp] at hp
    | invoke r m => simp [pureOp] at hp
  all_goals (simp [pureOp] at hp)
end Go.Cln
