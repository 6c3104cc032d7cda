/- A determinate reading of Go's code: operations that see memory; calls. -/
import Derived.Test.YtpfmilkddapfiaaClnPZ
import Derived.Test.YtpfmilkddapfiaaClnPR
namespace Go.Cln
set_option linter.unusedVariables false
set_option linter.unusedSimpArgs false
set_option linter.deprecated false
theorem alloc_obl {s s' : St} {b : Nat} {o : Ob} (h : s.alloc o = some (b, s')) : s'.obl → s.obl := fun k => (St.alloc_next h).2.2.2.2.1 ▸ k
theorem setOb_obl {s s' : St} {b : Nat} {o : Option Ob} (h : s.setOb b o = some s') : s'.obl → s.obl := fun k => (St.setOb_spec h).2.2.2.1 ▸ k
theorem srcCells_obl {s s' : St} {size n : Nat} {x : Value} {l : List Value} (h : srcCells s size n x = some (l, s')) : s'.obl → s.obl := (srcCells_like h).2.2.2
theorem storeAll_obl {s s' : St} {b o : Nat} {vs : List Value} (h : storeAll s b o vs = some s') : s'.obl → s.obl := (storeAll_spec h).2.2.2.2.2
theorem newRowOf_obl {s s' : St} {elem : TypeId} {size n : Nat} {l : List Value} {v : Value} (h : newRowOf s elem size l n = some (v, s')) : s'.obl → s.obl := by
  obtain ⟨b, ha, _⟩ := newRowOf_spec h; exact alloc_obl ha
theorem readN_obl {s s' : St} {c : Cells} {o n : Nat} {l : List Value} (h : c.readN s o n = some (l, s')) : s'.obl → s.obl := fun k => ((cells_readN h).2.2.2.2 k).1
theorem appendNew_obl {s s' : St} {elem : TypeId} {size sLen sCap n : Nat} {base : Option Addr} {x v : Value} (h : appendNew s elem size sLen sCap n base x = some (v, s')) : s'.obl → s.obl := by
  unfold appendNew at h
  rw [bind_some] at h; obtain ⟨⟨l, s1⟩, hr, h⟩ := h
  split at h
  · split at h
    · exact fun k => srcCells_obl hr (newRowOf_obl h k)
    · simp at h
  · split at h
    · rw [bind_some] at h; obtain ⟨⟨q, s2⟩, hq, h⟩ := h
      exact fun k => srcCells_obl hr (srcCells_obl hq (newRowOf_obl h k))
    · split at h
      · split at h
        · rw [bind_some] at h; obtain ⟨⟨q, s2⟩, hq, h⟩ := h
          rw [bind_some] at h; obtain ⟨s3, h3, h⟩ := h
          exact fun k => srcCells_obl hr (readN_obl hq (setOb_obl h3 (newRowOf_obl h k)))
        · simp at h
      · simp at h
abbrev MemOut (P : Program) (s s' : St) (ρ : Nat → PB) (w : World) (a : Act) (o : Oper) (v : Value) : Prop :=
  ∃ v' w' ρ', ((execOp a.eval o).run P w = .ok (.value v') w' ∨ ((execOp a.eval o).run P w = .ok .skip w' ∧ v' = undef)) ∧ VR (Dm s') ρ' v v' ∧ Hs s' ρ' w' ∧ Tra s s' ρ ρ' w w'
theorem appendBad_spec {xd : TypeDesc} {i : TypeInfo} {x : Value} (h : ¬ appendBad xd i x = true) : (∀ k, xd ≠ .int k) ∧ (∃ z, i.zero = some z ∧ z.cells.toList.length = i.size) ∧ i.size ≠ 0 ∧ ∀ t, x = .string t → i.size = 1 := by
  unfold appendBad at h
  rw [Bool.or_eq_true, Bool.or_eq_true, Bool.or_eq_true, not_or, not_or, not_or] at h
  obtain ⟨⟨⟨c1, c2⟩, c3⟩, c4⟩ := h
  refine ⟨fun k e => by subst e; simp [isIntD] at c1, ?_, by simpa using c3, fun t e => by subst e; simpa [isStr] using c4⟩
  unfold zeroBad at c2
  cases hz : i.zero with
  | none => rw [hz] at c2; simp at c2
  | some z => rw [hz] at c2; exact ⟨z, rfl, by simpa using c2⟩
theorem rowsAppend_sound {P : Program} {s s' : St} {argTypes : Array TypeId} {ty : TypeId} {vs vs' : List Value} {v : Value} {ρ : Nat → PB} {w : World} (h : rowsAppend P s argTypes vs = some (v, s')) (ho : s'.obl) (hs : Hs s ρ w) (hv : VL (Dm s) ρ vs vs') :
    ∃ v' w' ρ', (Builtin.append_ argTypes ty vs'.toArray).run P w = .ok v' w' ∧ VR (Dm s') ρ' v v' ∧ Hs s' ρ' w' ∧ Tra s s' ρ ρ' w w' := by
  unfold rowsAppend at h
  split at h
  rotate_left
  · cases h
  rename_i base sLen sCap B o g n c
  obtain ⟨b', r0, rfl, hb, hr⟩ := hv.inv_cons
  obtain ⟨x', r2, rfl, hx, hr2⟩ := hr.inv_cons
  rw [hr2.inv_nil]
  have hsE : Hs (lowR s) ρ w := (lowR_sub s).hs hs
  have hbE : VR (Dm (lowR s)) ρ (.slice base sLen sCap) b' := hb
  have hxE : VR (Dm (lowR s)) ρ (.slice (some ⟨B, o, some g⟩) n c) x' := hx
  split at h
  rotate_left
  · cases h
  rename_i hg
  split at h
  rotate_left
  · cases h
  rename_i N wd row hmem
  split at h
  rotate_left
  · cases h
  rename_i st xt h0 h1
  split at h
  rotate_left
  · cases h
  rename_i elem hst
  split at h
  rotate_left
  · cases h
  rename_i i xd hi hxt
  split at h
  · cases h
  rename_i hcond
  rw [Bool.or_eq_true, Bool.or_eq_true, Bool.or_eq_true, Bool.or_eq_true, Bool.or_eq_true, Bool.or_eq_true, Bool.or_eq_true, not_or, not_or, not_or, not_or, not_or, not_or, not_or] at hcond
  obtain ⟨⟨⟨⟨⟨⟨⟨d1, d2⟩, d3⟩, d4⟩, d5⟩, d6⟩, d7⟩, d8⟩ := hcond
  obtain ⟨hxd, ⟨z, hz, hzl⟩, c3, hstr⟩ := appendBad_spec d1
  have hsz : i.size = wd := by simpa using d2
  have hab : absB base = false := by simpa using d3
  have e4 : sLen = 0 := by simpa using d4
  have e5 : sCap = 0 := by simpa using d5
  have e6 : o = 0 := by simpa using d6
  have e7 : Nat.ble 1000 wd = false := Bool.eq_false_iff.2 d7
  subst e4
  subst e5
  subst e6
  rw [bind_some] at h
  obtain ⟨⟨e, s1⟩, hbr, h⟩ := h
  obtain ⟨lk, kb⟩ := branch_like hbr
  split at h
  · rename_i he
    have he : e = true := he
    simp only [Option.some.injEq, Prod.mk.injEq] at h; obtain ⟨rfl, rfl⟩ := h
    obtain ⟨_, e0⟩ := kb ho
    have hn0 : n = 0 := by rw [he] at e0; simpa using e0
    subst hn0
    have happ : appendIn (lowR s) i.size 0 0 0 base (.slice (some ⟨B, 0, some g⟩) 0 c) = some (.slice base 0 0, lowR s) := by
      unfold appendIn srcCells
      rw [if_pos rfl]
      rcases base with _ | ⟨b, o, gb⟩ <;> rfl
    obtain ⟨v', w', g0, g1, g2, g3⟩ := appendIn_sound (ty := ty) happ trivial hsE hbE hxE hab hst hi hxt hxd rfl (Nat.le_refl _) h0 h1
    exact lowR_out ⟨v', w', ρ, g0, g1, g2, g3⟩ (backR_sub lk) fun b _ => by rw [← lk.heap]
  · rename_i he
    have he : e = false := he
    rw [bind_some] at h
    obtain ⟨⟨k, s2⟩, ha, h⟩ := h
    simp only [Option.some.injEq, Prod.mk.injEq] at h; obtain ⟨rfl, rfl⟩ := h
    have hobl := alloc_obl ha ho
    obtain ⟨o1, hN, hrow, hb1, hb2⟩ := hobl
    obtain ⟨_, e0⟩ := kb o1
    have hn0 : n ≠ 0 := by rw [he] at e0; simpa using e0
    have hw : 0 < wd := by omega
    obtain ⟨sE', q1, q2, q3, q4, q5⟩ := rowsNew_low (sE := lowR s) hw hrow e7 (backR_sub (lk.trans (and_like _ _))) trivial ha
    have hsrc : srcCells (lowR s) wd n (.slice (some ⟨B, 0, some g⟩) n c) = some (rowsL row n, lowR s) := by
      have hmem2 : absMem (lowR s) g B = some (.lit (rowsL row N)) := by
        unfold absMem at hmem ⊢
        simp only [lowR, Tr.get_map]
        split at hmem
        · rename_i F hF
          simp only [Option.some.injEq] at hmem
          rw [hF]
          simp only [Option.map_some, toLitR]
          rw [hmem]
          simp only [toLitRC]
          rw [if_pos ⟨hw, hrow⟩]
        · cases hmem
      simp only [srcCells, if_neg hn0, isAbs, hg, if_true, Option.getD_some, hmem2, Option.bind_some, Cells.readN, Nat.zero_add, List.drop_zero]
      rw [if_pos (by rw [rowsL_len fun i _ => hrow i]; exact Nat.mul_le_mul_right _ hN), rowsL_take (fun i _ => hrow i) hN]
    have happ : appendNew (lowR s) elem i.size 0 0 n base (.slice (some ⟨B, 0, some g⟩) n c) = some (.slice (some ⟨k, 0, some wd⟩) n n, sE') := by
      unfold appendNew
      rw [hsz, hsrc]
      simp only [Option.bind_some]
      rcases base with _ | ⟨b, o, gb⟩
      · simp only [and_self, if_true]
        exact q1
      · rcases gb with _ | gb
        · simp only [srcCells, if_true, Option.bind_some, List.nil_append, Nat.zero_add]
          exact q1
        · exact absurd rfl d8
    obtain ⟨v', w', ρ', g0, g1, g2, g3⟩ := appendNew_sound (ty := ty) happ q3 hsE hbE hxE hab hst hi hz hzl c3 hxt hxd rfl (by omega) (by rw [Nat.zero_add]; exact hb1) (by rw [Nat.zero_add]; exact hb2) h0 h1 hstr
    exact lowR_out ⟨v', w', ρ', g0, g1, g2, g3⟩ q2 fun b hbm => by
      rw [q4 b (by show b < s1.next; rw [lk.next]; exact may_lt' hs.wf.1 hs.wf.2 hbm)]
      show s1.heap.get b = _; rw [lk.heap]
theorem appendNone_sound {P : Program} {s s' : St} {argTypes : Array TypeId} {ty : TypeId} {vs vs' : List Value} {v : Value} {ρ : Nat → PB} {w : World}
    (h : appendNone P s argTypes vs = some (v, s')) (ho : s'.obl) (hs : Hs s ρ w) (hv : VL (Dm s) ρ vs vs') :
    ∃ v', (Builtin.append_ argTypes ty vs'.toArray).run P w = .ok v' w ∧ VR (Dm s') ρ v v' ∧ s' = s := by
  unfold appendNone at h
  split at h
  rotate_left
  · cases h
  rename_i base sLen sCap x
  obtain ⟨b', r, rfl, hb, hr⟩ := hv.inv_cons
  obtain ⟨x', r2, rfl, hx, hr2⟩ := hr.inv_cons
  obtain rfl := hr2.inv_nil
  split at h
  rotate_left
  · cases h
  rename_i hab
  split at h
  rotate_left
  · cases h
  rename_i hm
  split at h
  rotate_left
  · cases h
  rename_i st xt h0 h1
  split at h
  rotate_left
  · cases h
  rename_i elem hst
  split at h
  rotate_left
  · cases h
  rename_i i xd hi hxt
  split at h
  · cases h
  rename_i hcond
  obtain ⟨hxd, ⟨z, hz, hzl⟩, c3, hstr⟩ := appendBad_spec hcond
  simp only [Option.some.injEq, Prod.mk.injEq] at h
  obtain ⟨rfl, rfl⟩ := h
  have hsrc : srcCells s i.size 0 x = some ([], s) := by
    unfold lenV at hm
    split at hm
    · rename_i a _ _
      cases a <;> rfl
    · rename_i t
      simp only [Option.some.injEq] at hm
      simp [srcCells]
    · cases hm
  obtain ⟨l', e2, e3⟩ := srcCells_sound (P := P) hsrc ho hs hx hm (Nat.le_refl _)
  obtain rfl := e3.inv_nil
  have e2 := e2 w rfl
  have main : ∀ (base' : Option Addr) (sLen' sCap' : Nat), sLen' ≤ sCap' →
      (Builtin.append_ argTypes ty #[.slice base' sLen' sCap', x']).run P w = .ok (.slice base' sLen' sCap') w := by
    intro base' sLen' sCap' e1
    have e1 : sLen' + 0 ≤ sCap' := e1
    have e4 : (match base' with | some a => storeCells (a.add (sLen' * i.size)) (#[] : Array Value).toList | none => pure ()).run P w = .ok () w := by
      cases base' <;> rfl
    have e2 : (Builtin.firstCells i.size 0 x').run P w = .ok #[] w := e2
    simp only [Builtin.append_, h0, h1, List.getElem?_toArray, List.getElem?_cons_zero, List.getElem?_cons_succ, Sem.run_bind, run_underlying hst, Result.andThen_ok, run_sizeOf (by simp [tsize, hi] : tsize P elem = some i.size), run_underlying hxt]
    cases xd <;> first
      | exact absurd rfl (hxd _)
      | (simp only [Bool.false_eq_true, if_false, run_lenOf hm hx w, Result.andThen_ok, e1, Bool.not_false, if_true, Sem.run_bind, e2, Sem.run_pure]
         cases base' with
         | none => rfl
         | some a => simp only [e4, Sem.run_bind, Result.andThen_ok, Sem.run_pure]; rfl)
  cases hb with
  | same hf =>
    cases base with
    | none => cases hab
    | some a => simp [flat0] at hf
  | slice hlt hle hok =>
    rename_i b o c' g a'
    cases g with
    | none => cases hab
    | some q =>
      have := (hok.2.2 q rfl).2.2
      simp only [absB, isAbs, Nat.ble_eq] at hab
      omega
  | abs z0 hg hk =>
    obtain ⟨k1, k2 | ⟨k2, a, c', rfl⟩⟩ := hk
    · subst k2; exact ⟨_, main _ _ _ k1, .abs z0 hg ⟨k1, .inl rfl⟩, rfl⟩
    · subst k2
      obtain rfl : sLen = 0 := by omega
      exact ⟨_, main _ _ _ (Nat.zero_le _), .abs z0 hg ⟨k1, .inr ⟨rfl, a, c', rfl⟩⟩, rfl⟩
def callsOp : Op → Bool
  | .call { callee := .value _, .. } => true
  | .call { callee := .invoke _ _, .. } => true
  | .defer _ => true
  | _ => false
theorem pure_mem {P : Program} {s s' : St} {ρ : Nat → PB} {w : World} {a : Act} {o : Oper} {v : Value} (h : PureOut P (Dm s) ρ s s' a o v) (ho : s'.obl) (hs : Hs s ρ w) : MemOut P s s' ρ w a o v := by
  obtain ⟨k1, _, _, k4⟩ := h
  obtain ⟨_, v', hr, hv⟩ := k4 ho
  exact ⟨v', w, ρ, .inl (hr w), by rw [k1.dm]; exact hv, k1.holds hs, k1.tra _ _⟩
theorem mem_value {P : Program} {s s' : St} {ρ ρ' : Nat → PB} {w w' : World} {a : Act} {o : Oper} {v v' : Value} {x : Sem Value} (he : execOp a.eval o = (do pure (.value (← x)))) (hr : x.run P w = .ok v' w') (hv : VR (Dm s') ρ' v v') (hs : Hs s' ρ' w') (ht : Tra s s' ρ ρ' w w') : MemOut P s s' ρ w a o v :=
  ⟨v', w', ρ', .inl (by rw [he]; simp only [Sem.run_bind, hr, Result.andThen_ok, Sem.run_pure]), hv, hs, ht⟩
theorem args_list (a : Act) (args : Array Operand) : (List.map a.eval args.toList).toArray = args.map a.eval := by apply Array.ext'; simp
theorem zero_cells {P : Program} (G : PG P) {N : Nat → Prop} {ρ : Nat → PB} {t : TypeId} {z : Value} (h : zeroOf P t = some z) : VL N ρ z.cells.toList z.cells.toList := (VR.of_dflat (G.zero t z h)).cells
set_option maxHeartbeats 4000000 in
theorem mem_sound {P : Program} (G : PG P) {K : Given} {ih : Orc} {ρ : Nat → PB} {s s' : St} {w : World} {a : Act} {o : Oper} {v : Value} (hc : callsOp o.op = false) (h : doOp P K ih s o = some (v, s')) (ho : s'.obl) (hs : Hs s ρ w) (ht : VL (Dm s) ρ s.tmps a.tmps.toList) :
    MemOut P s s' ρ w a o v := by
  by_cases hp : pureOp P o.op = true
  · exact pure_mem (pure_sound G hp h ht) ho hs
  obtain ⟨dst, op, type, pos, after, guard⟩ := o
  have fl : ∀ {o : Oper}, (∀ cs b, o.op ≠ .select cs b) → doFlat P s o = some (v, s') → MemOut P s s' ρ w a o v := fun hsel h => pure_mem (flat_out hsel ht h) ho hs
  cases op
  case alloc t =>
    simp only [doOp, oMove, oPick, oAlloc, oBox, oLoad, oStore, oNilCheck, oMakeFunc, oFieldAddr, oIndexAddr, oSlice, oArrayAt, oMakeSlice, oField, oIndex, oExtract, oConvert, oEq, oBin, oUn, oBuiltin, oCall, oLookup, oMapUpdate, oMapEntry, oEntryStore, bind_some] at h
    obtain ⟨z, hz, h⟩ := h
    obtain ⟨ρ', g1, g2, g3⟩ := newCells_sound (t' := t) h hs (zero_cells G hz)
    refine mem_value (x := Instr.alloc t true (.tuple #[])) rfl ?_ g1 g2 g3
    simp [Instr.alloc, run_zero hz, newVar, newRow]
  case box t x =>
    simp only [doOp, oMove, oPick, oAlloc, oBox, oLoad, oStore, oNilCheck, oMakeFunc, oFieldAddr, oIndexAddr, oSlice, oArrayAt, oMakeSlice, oField, oIndex, oExtract, oConvert, oEq, oBin, oUn, oBuiltin, oCall, oLookup, oMapUpdate, oMapEntry, oEntryStore, bind_some] at h
    obtain ⟨u, hu, h⟩ := h
    obtain ⟨ρ', g1, g2, g3⟩ := newCells_sound (t' := t) h hs (ev_sound ht hu).cells
    refine mem_value (x := Instr.box t (a.eval x)) rfl ?_ g1 g2 g3
    simp [Instr.box, newVar, newRow]
  case load t x =>
    simp only [doOp, oMove, oPick, oAlloc, oBox, oLoad, oStore, oNilCheck, oMakeFunc, oFieldAddr, oIndexAddr, oSlice, oArrayAt, oMakeSlice, oField, oIndex, oExtract, oConvert, oEq, oBin, oUn, oBuiltin, oCall, oLookup, oMapUpdate, oMapEntry, oEntryStore, bind_some] at h
    obtain ⟨u, hu, h⟩ := h
    obtain ⟨v', hr, hv⟩ := doLoad_sound h ho hs (ev_sound ht hu)
    obtain ⟨k1, _, _, _⟩ := doLoad_like h
    exact mem_value (x := Instr.loadAt t (a.eval x)) rfl hr (by rw [k1.dm]; exact hv) (k1.holds hs) (k1.tra _ _)
  case store t x y =>
    simp only [doOp, oMove, oPick, oAlloc, oBox, oLoad, oStore, oNilCheck, oMakeFunc, oFieldAddr, oIndexAddr, oSlice, oArrayAt, oMakeSlice, oField, oIndex, oExtract, oConvert, oEq, oBin, oUn, oBuiltin, oCall, oLookup, oMapUpdate, oMapEntry, oEntryStore, bind_some] at h
    obtain ⟨u, hu, u2, hu2, h⟩ := h
    obtain ⟨rfl, w', hr, g1, g2⟩ := doStore_sound h ho hs (ev_sound ht hu) (ev_sound ht hu2)
    exact ⟨undef, w', ρ, .inr ⟨by simp only [execOp, Sem.run_bind, hr, Result.andThen_ok, Sem.run_pure], rfl⟩, VR.undef, g1, g2⟩
  case makeSlice t l c =>
    simp only [doOp, oMove, oPick, oAlloc, oBox, oLoad, oStore, oNilCheck, oMakeFunc, oFieldAddr, oIndexAddr, oSlice, oArrayAt, oMakeSlice, oField, oIndex, oExtract, oConvert, oEq, oBin, oUn, oBuiltin, oCall, oLookup, oMapUpdate, oMapEntry, oEntryStore, bind_some] at h
    obtain ⟨u, hu, u2, hu2, h⟩ := h
    have hints : (∃ n, intVal u = some n) ∧ ∃ n, intVal u2 = some n := by
      unfold doMakeSlice at h
      split at h
      · rename_i h1 h2; exact ⟨⟨_, h1⟩, ⟨_, h2⟩⟩
      · simp at h
    obtain ⟨⟨n, hn⟩, ⟨m, hm⟩⟩ := hints
    obtain ⟨k1, rfl⟩ := intVal_some hn
    obtain ⟨k2, rfl⟩ := intVal_some hm
    have e1 := (ev_sound ht hu).eq_flat0 rfl
    have e2 := (ev_sound ht hu2).eq_flat0 rfl
    obtain ⟨v', w', ρ', hr, g1, g2, g3⟩ := doMakeSlice_sound h ho hs (fun z hz => by
      rw [Option.mem_def, bind_some] at hz
      obtain ⟨d, _, hz⟩ := hz
      split at hz
      · exact G.zero _ z hz
      · simp at hz)
    refine mem_value (x := Instr.makeSlice t (a.eval l) (a.eval c)) rfl ?_ g1 g2 g3
    rw [e1, e2]; exact hr
  case buildSlice t n ps =>
    simp only [doOp, oMove, oPick, oAlloc, oBox, oLoad, oStore, oNilCheck, oMakeFunc, oFieldAddr, oIndexAddr, oSlice, oArrayAt, oMakeSlice, oField, oIndex, oExtract, oConvert, oEq, oBin, oUn, oBuiltin, oCall, oLookup, oMapUpdate, oMapEntry, oEntryStore] at h
    obtain ⟨v', w', ρ', hr, g1, g2, g3⟩ := doBuildSlice_sound G.zero h hs ht
    exact mem_value (x := Instr.buildSlice t n (ps.map fun (i, x) => (i, a.eval x))) (by simp only [execOp]) hr g1 g2 g3
  case convert src dst' x =>
    simp only [doOp, oMove, oPick, oAlloc, oBox, oLoad, oStore, oNilCheck, oMakeFunc, oFieldAddr, oIndexAddr, oSlice, oArrayAt, oMakeSlice, oField, oIndex, oExtract, oConvert, oEq, oBin, oUn, oBuiltin, oCall, oLookup, oMapUpdate, oMapEntry, oEntryStore, bind_some] at h
    obtain ⟨u, hu, h⟩ := h
    split at h
    · rename_i r hr
      obtain ⟨x0, rfl, k1, k2, k3, k4⟩ := fitted_spec h
      obtain ⟨o1, ex⟩ := k4 ho
      subst ex
      obtain ⟨hrun, f1⟩ := fitConv_run hr
      have e1 := (ev_sound ht hu).eq_flat0 f1
      exact mem_value (x := convert src dst' (a.eval x)) rfl (by rw [e1]; exact hrun w) (.same rfl) (k1.holds hs) (k1.tra _ _)
    split at h
    · rename_i r hr
      simp only [Option.some.injEq, Prod.mk.injEq] at h; obtain ⟨rfl, rfl⟩ := h
      obtain ⟨hrun, hfl, f1⟩ := fastConv_run hr
      have e1 := (ev_sound ht hu).eq_flat0 f1
      exact mem_value (x := convert src dst' (a.eval x)) rfl (by rw [e1]; exact hrun w) (.same hfl) hs (Tra.refl _ _ _)
    · split at h
      · rename_i r hr
        simp only [Option.some.injEq] at h; subst h
        obtain ⟨v', w', ρ', hr, g1, g2, g3⟩ := softConvert_sound hr ho hs (ev_sound ht hu)
        exact mem_value (x := convert src dst' (a.eval x)) rfl hr g1 g2 g3
      split at h
      · rename_i r hr
        simp only [Option.some.injEq] at h; subst h
        obtain ⟨v', w', ρ', hr, g1, g2, g3⟩ := doConvert_sound hr ho hs (ev_sound ht hu)
        exact mem_value (x := convert src dst' (a.eval x)) rfl hr g1 g2 g3
      · exact fl (by intro _ _ h; cases h) h
  case call c =>
    obtain ⟨callee, args, argTypes⟩ := c
    cases callee with
    | value f => simp [callsOp] at hc
    | invoke r m => simp [callsOp] at hc
    | builtin b =>
      have hex : ∀ (x : Sem Value), builtin b argTypes type (args.map fun | .const _ => true | _ => false) (args.map a.eval) = (do pure (.value (← x))) →
          execOp a.eval { dst := dst, op := .call ⟨.builtin b, args, argTypes⟩, type := type, pos := pos, after := after, guard := guard } = (do pure (.value (← x))) := fun x hx => by
        simp only [execOp, resolve, pure_bind, invoke]; exact hx
      cases b
      case append =>
        simp only [doOp, oMove, oPick, oAlloc, oBox, oLoad, oStore, oNilCheck, oMakeFunc, oFieldAddr, oIndexAddr, oSlice, oArrayAt, oMakeSlice, oField, oIndex, oExtract, oConvert, oEq, oBin, oUn, oBuiltin, oCall, oLookup, oMapUpdate, oMapEntry, oEntryStore, bind_some] at h
        obtain ⟨vs, hvs, h⟩ := h
        have hv := evs_sound ht hvs
        cases hsN : appendNone P s argTypes vs with
        | some r0 =>
          rw [hsN] at h
          simp only [Option.some.injEq] at h; subst h
          obtain ⟨v', hr, g1, rfl⟩ := appendNone_sound (ty := type) hsN ho hs hv
          exact mem_value (hex (Builtin.append_ argTypes type (args.map a.eval)) rfl) (by rw [← args_list]; exact hr) g1 hs (Tra.refl _ _ _)
        | none =>
        rw [hsN] at h
        simp only at h
        cases hsR : rowsAppend P s argTypes vs with
        | some r0 =>
          rw [hsR] at h
          simp only [Option.some.injEq] at h; subst h
          obtain ⟨v', w', ρ', hr, g1, g2, g3⟩ := rowsAppend_sound (ty := type) hsR ho hs hv
          exact mem_value (hex (Builtin.append_ argTypes type (args.map a.eval)) rfl) (by rw [← args_list]; exact hr) g1 g2 g3
        | none =>
        rw [hsR] at h
        simp only at h
        cases hso : softAppend P s argTypes vs with
        | some r0 =>
          rw [hso] at h
          simp only [Option.some.injEq] at h; subst h
          obtain ⟨v', w', ρ', hr, g1, g2, g3⟩ := softAppend_sound (ty := type) hso ho hs hv
          exact mem_value (hex (Builtin.append_ argTypes type (args.map a.eval)) rfl) (by rw [← args_list]; exact hr) g1 g2 g3
        | none =>
        rw [hso] at h
        simp only at h
        cases hsz : softZeroes P s argTypes vs with
        | some r0 =>
          rw [hsz] at h
          simp only [Option.some.injEq] at h; subst h
          obtain ⟨v', w', ρ', hr, g1, g2, g3⟩ := softZeroes_sound (ty := type) G.zero hsz ho hs hv
          exact mem_value (hex (Builtin.append_ argTypes type (args.map a.eval)) rfl) (by rw [← args_list]; exact hr) g1 g2 g3
        | none =>
        rw [hsz] at h
        simp only at h
        cases hsa : softAppZ P s argTypes vs with
        | some r0 =>
          rw [hsa] at h
          simp only [Option.some.injEq] at h; subst h
          obtain ⟨v', w', ρ', hr, g1, g2, g3⟩ := softAppZ_sound (ty := type) hsa ho hs hv
          exact mem_value (hex (Builtin.append_ argTypes type (args.map a.eval)) rfl) (by rw [← args_list]; exact hr) g1 g2 g3
        | none =>
        rw [hsa] at h
        simp only at h
        cases hzr : doZeroes P s argTypes vs with
        | some r0 =>
          rw [hzr] at h
          simp only [Option.some.injEq] at h; subst h
          obtain ⟨v', w', ρ', hr, g1, g2, g3⟩ := doZeroes_sound (ty := type) G.zero hzr hs hv
          exact mem_value (hex (Builtin.append_ argTypes type (args.map a.eval)) rfl) (by rw [← args_list]; exact hr) g1 g2 g3
        | none =>
        rw [hzr] at h
        simp only at h
        unfold doAppend at h
        split at h
        · rename_i base sLen sCap x
          obtain ⟨b', r, e1, hb, hr⟩ := hv.inv_cons
          obtain ⟨x', r2, rfl, hx, hr2⟩ := hr.inv_cons
          rw [hr2.inv_nil] at e1
          have hargs : args.map a.eval = #[b', x'] := by rw [← args_list, e1]
          split at h
          · cases h
          rename_i hab0
          have hab : absB base = false := by simpa using hab0
          split at h
          · rename_i st xt hst hxt
            split at h
            · rename_i elem hu
              split at h
              · rename_i i n xd hi hn hxd
                split at h
                · simp at h
                · rename_i hcond
                  obtain ⟨hxd', ⟨z, hz, hzl⟩, c3, hstr⟩ := appendBad_spec hcond
                  split at h
                  · rename_i lo _
                    have lk : Like s { s with orc := lo, obl := s.obl ∧ (sCap < sLen + n ∧ (sLen + n) * i.bytes ≤ mostBytes ∧ sLen + n ≤ mostBytes) } := ⟨rfl, rfl, rfl, rfl, rfl⟩
                    have hb3 := (appendNew_obl h ho).2
                    obtain ⟨v', w', ρ', hr, g1, g2, g3⟩ := appendNew_sound (ty := type) h ho (lk.holds hs) hb hx hab hu hi hz hzl c3 hxd hxd' hn hb3.1 hb3.2.1 hb3.2.2 hst hxt hstr
                    exact mem_value (hex (Builtin.append_ argTypes type (args.map a.eval)) rfl) (by rw [hargs]; exact hr) g1 g2 (lk.thenTra g3)
                  split at h
                  · rename_i hroom
                    obtain ⟨v', w', hr, g1, g2, g3⟩ := appendIn_sound (ty := type) h ho hs hb hx hab hu hi hxd hxd' hn hroom hst hxt
                    exact mem_value (hex (Builtin.append_ argTypes type (args.map a.eval)) rfl) (by rw [hargs]; exact hr) g1 g2 g3
                  · rename_i hroom
                    split at h
                    · rename_i hbig
                      obtain ⟨v', w', ρ', hr, g1, g2, g3⟩ := appendNew_sound (ty := type) h ho hs hb hx hab hu hi hz hzl c3 hxd hxd' hn (by omega) hbig.1 hbig.2 hst hxt hstr
                      exact mem_value (hex (Builtin.append_ argTypes type (args.map a.eval)) rfl) (by rw [hargs]; exact hr) g1 g2 g3
                    · simp at h
              · simp at h
            · simp at h
          · simp at h
        · simp at h
      case copy =>
        simp only [doOp, oMove, oPick, oAlloc, oBox, oLoad, oStore, oNilCheck, oMakeFunc, oFieldAddr, oIndexAddr, oSlice, oArrayAt, oMakeSlice, oField, oIndex, oExtract, oConvert, oEq, oBin, oUn, oBuiltin, oCall, oLookup, oMapUpdate, oMapEntry, oEntryStore, bind_some] at h
        obtain ⟨vs, hvs, h⟩ := h
        cases hso : softCopy P s argTypes vs with
        | some r0 =>
          rw [hso] at h
          simp only [Option.some.injEq] at h; subst h
          obtain ⟨v', w', ρ', hr, g1, g2, g3⟩ := softCopy_sound (ty := type) hso ho hs (evs_sound ht hvs)
          exact mem_value (hex (Builtin.copy_ argTypes type (args.map a.eval)) rfl) (by rw [← args_list]; exact hr) g1 g2 g3
        | none =>
        rw [hso] at h
        simp only at h
        obtain ⟨v', w', hr, g1, g2, g3⟩ := doCopy_sound (ty := type) h ho hs (evs_sound ht hvs)
        exact mem_value (hex (Builtin.copy_ argTypes type (args.map a.eval)) rfl) (by rw [← args_list]; exact hr) g1 g2 g3
      case clear =>
        simp only [doOp, oMove, oPick, oAlloc, oBox, oLoad, oStore, oNilCheck, oMakeFunc, oFieldAddr, oIndexAddr, oSlice, oArrayAt, oMakeSlice, oField, oIndex, oExtract, oConvert, oEq, oBin, oUn, oBuiltin, oCall, oLookup, oMapUpdate, oMapEntry, oEntryStore, bind_some] at h
        obtain ⟨vs, hvs, h⟩ := h
        cases hso : softClear P s argTypes vs with
        | some r0 =>
          rw [hso] at h
          simp only [Option.some.injEq] at h; subst h
          obtain ⟨v', w', ρ', hr, g1, g2, g3⟩ := softClear_sound (ty := type) G.zero hso ho hs (evs_sound ht hvs)
          exact mem_value (hex (Builtin.clear_ argTypes type (args.map a.eval)) rfl) (by rw [← args_list]; exact hr) g1 g2 g3
        | none =>
        rw [hso] at h
        simp only at h
        obtain ⟨v', w', hr, g1, g2, g3⟩ := clearCells (ty := type) G.zero h ho hs (evs_sound ht hvs)
        exact mem_value (hex (Builtin.clear_ argTypes type (args.map a.eval)) rfl) (by rw [← args_list]; exact hr) g1 g2 g3
      case len =>
        have hm : isMapT P argTypes = true := by simpa [pureOp] using hp
        simp only [doOp, oMove, oPick, oAlloc, oBox, oLoad, oStore, oNilCheck, oMakeFunc, oFieldAddr, oIndexAddr, oSlice, oArrayAt, oMakeSlice, oField, oIndex, oExtract, oConvert, oEq, oBin, oUn, oBuiltin, oCall, oLookup, oMapUpdate, oMapEntry, oEntryStore, hm, if_true, bind_some] at h
        obtain ⟨vs, hvs, h⟩ := h
        obtain ⟨rfl, hr, hf⟩ := doLenMap_sound (P := P) (ty := type) hm h hs (evs_sound ht hvs)
        exact mem_value (hex (Builtin.len_ argTypes type (args.map a.eval)) rfl) (by rw [← args_list]; exact hr) (.same hf) hs (Tra.refl _ _ _)
      case max =>
        simp only [doOp, oCall, oBuiltin, bind_some] at h
        obtain ⟨vs, hvs, h⟩ := h
        split at h
        · rename_i r hr
          simp only [Option.some.injEq] at h; subst h
          obtain ⟨k, k', x, y, rfl, k1, k2, k3, hfl, k4⟩ := doMax_spec hr
          obtain ⟨o1, rfl⟩ := k4 ho
          have hl := (evs_sound ht hvs)
          have hl2 : List.map a.eval args.toList = [.int k x, .int k' y] := hl.eq_of (fun v hv w hw => hw.eq_flat0 (by simp at hv; rcases hv with rfl | rfl <;> rfl))
          have hargs : args.map a.eval = #[.int k x, .int k' y] := by rw [← args_list, hl2]
          exact mem_value (hex (Builtin.max_ argTypes type (args.map a.eval)) rfl) (by rw [hargs]; simp [Builtin.max_, Builtin.max2]) (.same rfl) (k1.holds hs) (k1.tra _ _)
        · exact fl (by intro _ _ h; cases h) h
      case min =>
        simp only [doOp, oCall, oBuiltin, bind_some] at h
        obtain ⟨vs, hvs, h⟩ := h
        split at h
        · rename_i r hr
          simp only [Option.some.injEq] at h; subst h
          obtain ⟨k, k', x, y, rfl, k1, k2, k3, hfl, k4⟩ := doMin_spec hr
          obtain ⟨o1, rfl⟩ := k4 ho
          have hl := (evs_sound ht hvs)
          have hl2 : List.map a.eval args.toList = [.int k x, .int k' y] := hl.eq_of (fun v hv w hw => hw.eq_flat0 (by simp at hv; rcases hv with rfl | rfl <;> rfl))
          have hargs : args.map a.eval = #[.int k x, .int k' y] := by rw [← args_list, hl2]
          exact mem_value (hex (Builtin.min_ argTypes type (args.map a.eval)) rfl) (by rw [hargs]; simp [Builtin.min_, Builtin.min2]) (.same rfl) (k1.holds hs) (k1.tra _ _)
        · exact fl (by intro _ _ h; cases h) h
      case delete =>
        simp only [doOp, oMove, oPick, oAlloc, oBox, oLoad, oStore, oNilCheck, oMakeFunc, oFieldAddr, oIndexAddr, oSlice, oArrayAt, oMakeSlice, oField, oIndex, oExtract, oConvert, oEq, oBin, oUn, oBuiltin, oCall, oLookup, oMapUpdate, oMapEntry, oEntryStore, bind_some] at h
        obtain ⟨vs, hvs, h⟩ := h
        obtain ⟨v', w', hr, g1, g2, g3⟩ := doDelete_sound (ty := type) h ho hs (evs_sound ht hvs)
        exact mem_value (hex (Builtin.delete_ argTypes type (args.map a.eval)) rfl) (by rw [← args_list]; exact hr) g1 g2 g3
      all_goals (simp only [doOp, oMove, oPick, oAlloc, oBox, oLoad, oStore, oNilCheck, oMakeFunc, oFieldAddr, oIndexAddr, oSlice, oArrayAt, oMakeSlice, oField, oIndex, oExtract, oConvert, oEq, oBin, oUn, oBuiltin, oCall, oLookup, oMapUpdate, oMapEntry, oEntryStore] at h; exact fl (by intro _ _ h; cases h) h)
  case makeMap t r =>
    cases r with
    | some r => simp only [doOp, oMove, oPick, oAlloc, oBox, oLoad, oStore, oNilCheck, oMakeFunc, oFieldAddr, oIndexAddr, oSlice, oArrayAt, oMakeSlice, oField, oIndex, oExtract, oConvert, oEq, oBin, oUn, oBuiltin, oCall, oLookup, oMapUpdate, oMapEntry, oEntryStore, Option.map_some, doMakeMap] at h; cases h
    | none =>
      simp only [doOp, oMove, oPick, oAlloc, oBox, oLoad, oStore, oNilCheck, oMakeFunc, oFieldAddr, oIndexAddr, oSlice, oArrayAt, oMakeSlice, oField, oIndex, oExtract, oConvert, oEq, oBin, oUn, oBuiltin, oCall, oLookup, oMapUpdate, oMapEntry, oEntryStore, Option.map_none] at h
      obtain ⟨v', w', ρ', hr, g1, g2, g3⟩ := doMakeMap_sound (t := t) h hs
      exact mem_value (x := Instr.makeMap t none) rfl hr g1 g2 g3
  case lookup t x k c =>
    simp only [doOp, oMove, oPick, oAlloc, oBox, oLoad, oStore, oNilCheck, oMakeFunc, oFieldAddr, oIndexAddr, oSlice, oArrayAt, oMakeSlice, oField, oIndex, oExtract, oConvert, oEq, oBin, oUn, oBuiltin, oCall, oLookup, oMapUpdate, oMapEntry, oEntryStore, bind_some] at h
    obtain ⟨u, hu, u2, hu2, h⟩ := h
    obtain ⟨v', hr, hv⟩ := doLookup_sound G.zero h ho hs (ev_sound ht hu) (ev_sound ht hu2)
    obtain ⟨k1, _, _, _⟩ := doLookup_like h
    exact mem_value (x := Instr.lookup t (a.eval x) (a.eval k) c) rfl hr (by rw [k1.dm]; exact hv) (k1.holds hs) (k1.tra _ _)
  case mapUpdate t m k x =>
    simp only [doOp, oMove, oPick, oAlloc, oBox, oLoad, oStore, oNilCheck, oMakeFunc, oFieldAddr, oIndexAddr, oSlice, oArrayAt, oMakeSlice, oField, oIndex, oExtract, oConvert, oEq, oBin, oUn, oBuiltin, oCall, oLookup, oMapUpdate, oMapEntry, oEntryStore, bind_some] at h
    obtain ⟨u, hu, u2, hu2, u3, hu3, h⟩ := h
    obtain ⟨rfl, w', hr, g1, g2⟩ := doMapUpdate_sound h ho hs (ev_sound ht hu) (ev_sound ht hu2) (ev_sound ht hu3)
    exact ⟨undef, w', ρ, .inr ⟨by simp only [execOp, Sem.run_bind, hr, Result.andThen_ok, Sem.run_pure], rfl⟩, VR.undef, g1, g2⟩
  case insert t m k x =>
    simp only [doOp, oMove, oPick, oAlloc, oBox, oLoad, oStore, oNilCheck, oMakeFunc, oFieldAddr, oIndexAddr, oSlice, oArrayAt, oMakeSlice, oField, oIndex, oExtract, oConvert, oEq, oBin, oUn, oBuiltin, oCall, oLookup, oMapUpdate, oMapEntry, oEntryStore, bind_some] at h
    obtain ⟨u, hu, u2, hu2, u3, hu3, h⟩ := h
    obtain ⟨rfl, w', hr, g1, g2⟩ := doMapUpdate_sound h ho hs (ev_sound ht hu) (ev_sound ht hu2) (ev_sound ht hu3)
    exact ⟨undef, w', ρ, .inr ⟨by simp only [execOp, Sem.run_bind, hr, Result.andThen_ok, Sem.run_pure], rfl⟩, VR.undef, g1, g2⟩
  case mapEntry t m k =>
    simp only [doOp, oMove, oPick, oAlloc, oBox, oLoad, oStore, oNilCheck, oMakeFunc, oFieldAddr, oIndexAddr, oSlice, oArrayAt, oMakeSlice, oField, oIndex, oExtract, oConvert, oEq, oBin, oUn, oBuiltin, oCall, oLookup, oMapUpdate, oMapEntry, oEntryStore, bind_some] at h
    obtain ⟨u, hu, u2, hu2, h⟩ := h
    obtain ⟨v', w', hr, g1, g2, g3⟩ := doMapEntry_sound G.zero h ho hs (ev_sound ht hu) (ev_sound ht hu2)
    exact mem_value (x := Instr.mapEntry t (a.eval m) (a.eval k)) rfl hr g1 g2 g3
  case entryStore t m k x =>
    simp only [doOp, oMove, oPick, oAlloc, oBox, oLoad, oStore, oNilCheck, oMakeFunc, oFieldAddr, oIndexAddr, oSlice, oArrayAt, oMakeSlice, oField, oIndex, oExtract, oConvert, oEq, oBin, oUn, oBuiltin, oCall, oLookup, oMapUpdate, oMapEntry, oEntryStore, bind_some] at h
    obtain ⟨u, hu, u2, hu2, u3, hu3, h⟩ := h
    obtain ⟨rfl, w', hr, g1, g2⟩ := doEntryStore_sound (P := P) (mt := t) h hs (ev_sound ht hu) (ev_sound ht hu2) (ev_sound ht hu3)
    exact ⟨undef, w', ρ, .inr ⟨by simp only [execOp, Sem.run_bind, hr, Result.andThen_ok, Sem.run_pure], rfl⟩, VR.undef, g1, g2⟩
  case defer c => simp [callsOp] at hc
  case select cs b => simp [doOp, oMove, oPick, oAlloc, oBox, oLoad, oStore, oNilCheck, oMakeFunc, oFieldAddr, oIndexAddr, oSlice, oArrayAt, oMakeSlice, oField, oIndex, oExtract, oConvert, oEq, oBin, oUn, oBuiltin, oCall, oLookup, oMapUpdate, oMapEntry, oEntryStore] at h
  case go c => simp [doOp, oMove, oPick, oAlloc, oBox, oLoad, oStore, oNilCheck, oMakeFunc, oFieldAddr, oIndexAddr, oSlice, oArrayAt, oMakeSlice, oField, oIndex, oExtract, oConvert, oEq, oBin, oUn, oBuiltin, oCall, oLookup, oMapUpdate, oMapEntry, oEntryStore] at h
  all_goals first
    | (simp [pureOp] at hp; done)
    | (simp only [doOp, oMove, oPick, oAlloc, oBox, oLoad, oStore, oNilCheck, oMakeFunc, oFieldAddr, oIndexAddr, oSlice, oArrayAt, oMakeSlice, oField, oIndex, oExtract, oConvert, oEq, oBin, oUn, oBuiltin, oCall, oLookup, oMapUpdate, oMapEntry, oEntryStore] at h; exact fl (by intro _ _ h; cases h) h)
end Go.Cln
