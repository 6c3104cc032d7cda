/- A determinate reading of Go's code: operations in a region, one behind the other. -/
import Derived.Test.YtpfmilkddapfiaaClnP13
namespace Go.Cln
set_option linter.unusedVariables false
set_option linter.unusedSimpArgs false
set_option linter.deprecated false
theorem op_wp {P : Program} (G : PG P) {K : Given} {ih : Orc} (hi : OrcOk P ih) {s s' : St} {o : Oper} {v : Value} {ρ : Nat → PB} {w : World} {a a0 : Act} {F : Fence} (hF : ∃ rd ρ0, F = fenceOf rd ρ0) {n : Nat} {next : Act → World → Prop} {Q : Exit → Act → World → Prop}
    (h : doOp P K ih s o = some (v, s')) (ho : s'.obl) (hs : Hs s ρ w) (ht : VL (Dm s) ρ s.tmps a0.tmps.toList) (he : ∀ x ∈ o.op.operands, a.eval x = a0.eval x)
    (hn : ∀ v' ρ' w', VR (Dm s') ρ' v v' → Hs s' ρ' w' → Tra s s' ρ ρ' w w' → next (a.put o.dst v') w') : o.wpIn F n P a w next Q := by
  obtain ⟨rd, ρ0, rfl⟩ := hF
  have hdep : (fenceOf rd ρ0).depth.isSome = true → 1 ≤ n := fun x => by rw [fenceOf_depth] at x; simp at x
  have hsel : ∀ cs b, o.op ≠ .select cs b := fun cs b e => by
    obtain ⟨dst, op, type, pos, after, guard⟩ := o
    simp only at e; subst e; simp [doOp, oMove, oPick, oAlloc, oBox, oLoad, oStore, oNilCheck, oMakeFunc, oFieldAddr, oIndexAddr, oSlice, oArrayAt, oMakeSlice, oField, oIndex, oExtract, oConvert, oEq, oBin, oUn, oBuiltin, oCall, oLookup, oMapUpdate, oMapEntry, oEntryStore] at h
  have hex := execOp_congr o hsel he
  refine ⟨fun f _ => fenceOf_fn rd ρ0 f, ?_⟩
  by_cases hc : callsOp o.op = false
  · have hnd : ∀ c, o.op ≠ .defer c := fun c e => by rw [e] at hc; simp [callsOp] at hc
    rw [Oper.semAt_eq _ _ _ hnd, hex]
    obtain ⟨v', w', ρ', hr, g1, g2, g3⟩ := mem_sound G hc h ho hs ht
    rcases hr with hr | ⟨hr, rfl⟩
    · rw [hr]; exact hn v' ρ' w' g1 g2 g3
    · rw [hr]; exact hn undef ρ' w' g1 g2 g3
  · obtain ⟨dst, op, type, pos, after, guard⟩ := o
    cases op <;> simp [callsOp] at hc
    case defer c => simp [doOp, oMove, oPick, oAlloc, oBox, oLoad, oStore, oNilCheck, oMakeFunc, oFieldAddr, oIndexAddr, oSlice, oArrayAt, oMakeSlice, oField, oIndex, oExtract, oConvert, oEq, oBin, oUn, oBuiltin, oCall, oLookup, oMapUpdate, oMapEntry, oEntryStore] at h
    case call c =>
      obtain ⟨callee, args, argTypes⟩ := c
      cases callee with
      | builtin b => simp at hc
      | invoke r m => simp [doOp, oMove, oPick, oAlloc, oBox, oLoad, oStore, oNilCheck, oMakeFunc, oFieldAddr, oIndexAddr, oSlice, oArrayAt, oMakeSlice, oField, oIndex, oExtract, oConvert, oEq, oBin, oUn, oBuiltin, oCall, oLookup, oMapUpdate, oMapEntry, oEntryStore] at h
      | value f =>
        rw [Oper.semAt_eq _ _ _ (fun c e => by cases e), hex]
        simp only [doOp, oMove, oPick, oAlloc, oBox, oLoad, oStore, oNilCheck, oMakeFunc, oFieldAddr, oIndexAddr, oSlice, oArrayAt, oMakeSlice, oField, oIndex, oExtract, oConvert, oEq, oBin, oUn, oBuiltin, oCall, oLookup, oMapUpdate, oMapEntry, oEntryStore, bind_some] at h
        obtain ⟨fv, hfv, vs, hvs, h⟩ := h
        have rf := ev_sound ht hfv
        have ra := evs_sound ht hvs
        unfold doCall at h
        split at h
        · rename_i g first cap
          unfold doEnter at h
          split at h
          · rename_i fn hfn
            split at h
            · rename_i hb
              have key : ∃ first' cap', a0.eval f = .func (.func g) first' cap' ∧ VL (Dm s) ρ (first.toList ++ vs ++ cap.toList) (first'.toList ++ args.toList.map a0.eval ++ cap'.toList) := by
                generalize a0.eval f = z at rf
                cases rf with
                | same hf =>
                  simp only [flat0, Bool.and_eq_true, List.isEmpty_iff] at hf
                  refine ⟨first, cap, rfl, ?_⟩
                  rw [hf.1, hf.2]; simpa using ra
                | fn h1 h2 h3 h4 => exact ⟨_, _, rfl, (VL.append (VL.append ⟨h1, h2⟩ ra) ⟨h3, h4⟩)⟩
              obtain ⟨first', cap', hev, hvl⟩ := key
              have hrun : (execOp a0.eval { dst := dst, op := .call ⟨.value f, args, argTypes⟩, type := type, pos := pos, after := after, guard := guard }).run P w = .ok (.enter g (first' ++ args.map a0.eval ++ cap')) w := by
                simp only [execOp, resolve, hev, Deferred.ofValue, pure_bind, invoke]
                exact run_callFunc G hfn hb _ _
              rw [hrun]
              refine ⟨hdep, fenceOf_calls (m := n - 1) ?_⟩
              have hargs : (first'.toList ++ args.toList.map a0.eval ++ cap'.toList).toArray = first' ++ args.map a0.eval ++ cap' := by apply Array.ext'; simp
              have := hi.okCall h ho (n - 1) ρ w _ hs hvl
              rw [hargs] at this
              refine this.mono ?_
              rintro e w' ⟨v', ρ', rfl, g1, g2, g3⟩
              exact hn v' ρ' w' g1 g2 g3
            · simp at h
          · simp at h
        · rename_i l first cap
          split at h
          · rename_i hemp
            simp only [Bool.and_eq_true, List.isEmpty_iff] at hemp
            have hev : a0.eval f = .func (.yield (ρ l).blk) #[] #[] := by
              generalize a0.eval f = z at rf
              cases rf with
              | same hf => simp [flat0] at hf
              | yield hlt => rfl
            obtain ⟨fr, tmps, assign, body, hr, hround⟩ := doYield_sound hi h ho hs ra (n - 1)
            have hrun : (execOp a0.eval { dst := dst, op := .call ⟨.value f, args, argTypes⟩, type := type, pos := pos, after := after, guard := guard }).run P w = .ok (.round (ρ l).blk fr tmps assign body) w := by
              simp only [execOp, resolve, hev, Deferred.ofValue, pure_bind, invoke]
              rw [args_list] at hr
              have e : #[] ++ args.map a0.eval = args.map a0.eval := by simp
              rw [e]; exact hr
            rw [hrun]
            have hround' : RoundIn (fenceOf rd ρ0) (n - 1) P (ρ l).blk fr tmps assign body w fun e w' => ∃ v' ρ', e = .returned v' ∧ VR (Dm s') ρ' v v' ∧ Hs s' ρ' w' ∧ Tra s s' ρ ρ' w w' := by
              cases rd with
              | none => exact hround
              | some l => exact hround
            refine ⟨hdep, hround'.mono ?_⟩
            rintro e w' ⟨v', ρ', rfl, g1, g2, g3⟩
            exact hn v' ρ' w' g1 g2 g3
          · simp at h
        · simp at h
theorem VR.bool_inv {N : Nat → Prop} {ρ : Nat → PB} {v : Value} {b : Bool} (h : VR N ρ v (.bool b)) : v = .bool b ∨ v = .chan (some 0) := by
  cases h
  · exact .inl rfl
  · exact .inr rfl
  · rename_i k
    obtain ⟨_, k | ⟨_, _, _, k⟩⟩ := k <;> cases k
theorem wanted_sound {ops : Array Oper} {s s1 : St} {o : Oper} {b : Bool} {N : Nat → Prop} {ρ : Nat → PB} {a : Act} (h : wantedC ops s o = some (b, s1)) (ht : VL N ρ s.tmps a.tmps.toList) :
    Like s s1 ∧ s1.defers = s.defers ∧ (s1.obl → s.obl ∧ Region.wanted o (yielded ops a.tmps) = b ∧ VL N ρ s1.tmps a.tmps.toList) := by
  unfold wantedC at h
  unfold Region.wanted
  split at h
  · rename_i hg
    simp only [Option.some.injEq, Prod.mk.injEq] at h; obtain ⟨rfl, rfl⟩ := h
    rw [hg]; exact ⟨Like.refl _, rfl, fun k => ⟨k, rfl, ht⟩⟩
  · rename_i j want hg
    rw [hg]
    simp only
    split at h
    · rename_i hd
      simp only [Option.some.injEq, Prod.mk.injEq] at h; obtain ⟨rfl, rfl⟩ := h
      refine ⟨Like.refl _, rfl, fun k => ⟨k, ?_, ht⟩⟩
      simp [yielded, hd]
    · rename_i t hd
      split at h
      · rename_i b0 hb
        rw [bind_some] at h
        obtain ⟨⟨e, s2⟩, h2, h⟩ := h
        simp only [Option.some.injEq, Prod.mk.injEq] at h; obtain ⟨rfl, rfl⟩ := h
        obtain ⟨k1, k2, k3, k4⟩ := St.branch_spec h2
        refine ⟨k1.trans ⟨rfl, rfl, rfl, rfl, rfl⟩, k3, fun k => ?_⟩
        obtain ⟨g1, rfl⟩ := k4 k
        obtain ⟨x, hx, hr⟩ := ht.get hb
        have := hr.eq_flat0 rfl; subst this
        refine ⟨g1, ?_, ?_⟩
        · have : a.tmps[t]? = some (.bool b0) := by rw [← Array.getElem?_toList]; exact hx
          simp [yielded, hd, this]
        · show VL N ρ (setL s2.tmps t (.bool b0)) a.tmps.toList
          rw [setL_eq, k2]
          have e : s.tmps.set t (.bool b0) = s.tmps := by
            apply List.ext_getElem?
            intro i
            rw [List.getElem?_set]
            by_cases hi : t = i
            · subst hi
              rw [if_pos rfl]
              have hlt : t < s.tmps.length := by
                rcases Nat.lt_or_ge t s.tmps.length with h | h
                · exact h
                · simp [List.getElem?_eq_none h] at hb
              rw [if_pos hlt, hb]
            · rw [if_neg hi]
          rw [e]; exact ht
      · cases h
      · rename_i hnb hnc
        simp only [Option.some.injEq, Prod.mk.injEq] at h; obtain ⟨rfl, rfl⟩ := h
        refine ⟨Like.refl _, rfl, fun k => ⟨k, ?_, ht⟩⟩
        have hy : yielded ops a.tmps j = none := by
          simp only [yielded, hd, Option.bind_some]
          cases hx : a.tmps[t]? with
          | none => rfl
          | some x =>
            cases x <;> try rfl
            rename_i bb
            exfalso
            rw [← Array.getElem?_toList] at hx
            have hlt : t < s.tmps.length := by
              rw [ht.1]
              rcases Nat.lt_or_ge t a.tmps.toList.length with h | h
              · exact h
              · simp [List.getElem?_eq_none h] at hx
            have := ht.2 t s.tmps[t] _ (by simp [hlt]) hx
            rcases this.bool_inv with e | e
            · exact hnb bb (by rw [← e]; simp [hlt])
            · exact hnc (some 0) (by rw [← e]; simp [hlt])
        rw [hy]; rfl
theorem wanted_obl {ops : Array Oper} {s s1 : St} {o : Oper} {b : Bool} (h : wantedC ops s o = some (b, s1)) : s1.obl → s.obl := by
  unfold wantedC at h
  split at h
  · simp at h; obtain ⟨_, rfl⟩ := h; exact id
  · split at h
    · simp at h; obtain ⟨_, rfl⟩ := h; exact id
    · split at h
      · rw [bind_some] at h
        obtain ⟨⟨e, s2⟩, h2, h⟩ := h
        simp only [Option.some.injEq, Prod.mk.injEq] at h; obtain ⟨_, rfl⟩ := h
        exact fun k => by have := branch_obl h2 k; exact this
      · cases h
      · simp at h; obtain ⟨_, rfl⟩ := h; exact id
theorem runOne_obl {P : Program} {K : Given} {ih : Orc} (hi : OrcObl ih) {ops : Array Oper} {s s' : St} {i : Nat} (h : runOne P K ih ops s i = some s') : s'.obl → s.obl := by
  unfold runOne at h
  split at h
  · simp at h
  · rename_i o ho
    rw [bind_some] at h
    obtain ⟨⟨b, s1⟩, h1, h⟩ := h
    split at h
    · rw [bind_some] at h
      obtain ⟨⟨v, s2⟩, h2, h⟩ := h
      simp only [Option.some.injEq] at h; subst h
      intro k
      refine wanted_obl h1 (doOp_obl hi h2 ?_)
      revert k; cases o.dst <;> exact id
    · simp only [Option.some.injEq] at h; subst h
      intro k
      refine wanted_obl h1 ?_
      revert k; cases o.dst <;> exact id
theorem runSeq_obl {P : Program} {K : Given} {ih : Orc} (hi : OrcObl ih) {ops : Array Oper} : ∀ {l : List Nat} {s s' : St}, runSeq P K ih ops l s = some s' → s'.obl → s.obl
  | [], s, s', h => by simp [runSeq] at h; subst h; exact id
  | i :: l, s, s', h => by
    simp only [runSeq, St.norm_eq, bind_some] at h
    obtain ⟨s1, h1, h⟩ := h
    exact fun k => runOne_obl hi h1 (runSeq_obl hi h k)
theorem runOne_sound {P : Program} (G : PG P) {K : Given} {ih : Orc} (hi : OrcOk P ih) {ops : Array Oper} {s s' : St} {i : Nat} {ρ : Nat → PB} {w : World} {a : Act} {F : Fence} (hF : ∃ rd ρ0, F = fenceOf rd ρ0) {n : Nat} {Kn : Act → World → Prop} {Q : Exit → Act → World → Prop}
    (h : runOne P K ih ops s i = some s') (ho : s'.obl) (hr : Rel s ρ w a) (hn : ∀ ρ' w' a', Rel s' ρ' w' a' → Tra s s' ρ ρ' w w' → Kn a' w') : wpOpIn F n P ops Q i Kn a w := by
  have ho0 := ho
  unfold runOne at h
  unfold wpOpIn
  split at h
  · simp at h
  · rename_i o hop
    rw [hop]
    simp only
    rw [bind_some] at h
    obtain ⟨⟨b, s1⟩, h1, h⟩ := h
    obtain ⟨k1, k2, k3⟩ := wanted_sound h1 hr.tmps
    split at h
    · rename_i hb
      rw [bind_some] at h
      obtain ⟨⟨v, s2⟩, h2, h⟩ := h
      simp only [Option.some.injEq] at h; subst h
      have o2 : s2.obl := by revert ho; cases o.dst <;> exact id
      have o1 : s1.obl := doOp_obl hi.toOrcObl h2 o2
      obtain ⟨_, e, ht1⟩ := k3 o1
      have hb' : b = true := hb
      rw [e, if_pos hb']
      have r1 : Rel s1 ρ w a := ⟨k1.holds hr.hs, by rw [k1.dm]; exact ht1, by rw [k2]; exact hr.defers, by rw [k2, k1.next]; exact hr.marks⟩
      refine op_wp (a0 := a) G hi hF h2 o2 r1.hs r1.tmps (fun _ _ => rfl) fun v' ρ' w' g1 g2 g3 => ?_
      have l2 : Like s2 { s2 with tmps := s1.tmps, defers := s1.defers } := ⟨rfl, rfl, rfl, rfl, rfl⟩
      have r2 : Rel { s2 with tmps := s1.tmps, defers := s1.defers } ρ' w' a := r1.after g3 g2 l2 rfl rfl
      exact hn ρ' w' _ (r2.put o.dst g1) (((k1.thenTra g3).like l2).like (set_like _ _ _))
    · rename_i hb
      simp only [Option.some.injEq] at h; subst h
      have o1 : s1.obl := by revert ho; cases o.dst <;> exact id
      obtain ⟨_, e, ht1⟩ := k3 o1
      have hb' : b = false := by simpa using hb
      subst hb'
      rw [e, if_neg (by simp)]
      obtain ⟨rd, ρ0, rfl⟩ := hF
      refine ⟨fun f _ => fenceOf_fn rd ρ0 f, ?_⟩
      have r1 : Rel s1 ρ w a := ⟨k1.holds hr.hs, by rw [k1.dm]; exact ht1, by rw [k2]; exact hr.defers, by rw [k2, k1.next]; exact hr.marks⟩
      exact hn ρ w _ (r1.put o.dst VR.undef) ((k1.tra _ _).like (set_like _ _ _))
theorem runSeq_sound {P : Program} (G : PG P) {K : Given} {ih : Orc} (hi : OrcOk P ih) {ops : Array Oper} {F : Fence} (hF : ∃ rd ρ0, F = fenceOf rd ρ0) {n : Nat} {Q : Exit → Act → World → Prop} :
    ∀ {l : List Nat} {s s' : St} {ρ : Nat → PB} {w : World} {a : Act}, runSeq P K ih ops l s = some s' → s'.obl → Rel s ρ w a → (∀ ρ' w' a', Rel s' ρ' w' a' → Tra s s' ρ ρ' w w' → Q .normal a' w') → wpOpsIn F n P ops Q l a w
  | [], s, s', ρ, w, a, h, ho, hr, hn => by simp [runSeq] at h; subst h; exact hn ρ w a hr (Tra.refl _ _ _)
  | i :: l, s, s', ρ, w, a, h, ho, hr, hn => by
    simp only [runSeq, St.norm_eq, bind_some] at h
    obtain ⟨s1, h1, h⟩ := h
    rw [wpOpsIn_cons]
    refine runOne_sound G hi hF h1 (runSeq_obl hi.toOrcObl h ho) hr fun ρ1 w1 a1 r1 t1 => ?_
    exact runSeq_sound G hi hF h ho r1 fun ρ2 w2 a2 r2 t2 => hn ρ2 w2 a2 r2 (t1.trans t2)
end Go.Cln
