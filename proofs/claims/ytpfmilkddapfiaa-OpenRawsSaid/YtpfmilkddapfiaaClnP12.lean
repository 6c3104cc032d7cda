/- A determinate reading of Go's code: the conditions only grow. -/
import Derived.Test.YtpfmilkddapfiaaClnP11
namespace Go.Cln
set_option linter.unusedVariables false
set_option linter.unusedSimpArgs false
set_option linter.deprecated false
theorem need_obl {s s' : St} {p : Prop} [Decidable p] (h : s.need p = some s') : s'.obl → s.obl := fun k => ((St.need_spec h).2.2.2 k).1
theorem branch_obl {s s' : St} {b e : Bool} (h : s.branch b = some (e, s')) : s'.obl → s.obl := fun k => ((St.branch_spec h).2.2.2 k).1
theorem doFlat_obl {P : Program} {s s' : St} {o : Oper} {v : Value} (h : doFlat P s o = some (v, s')) : s'.obl → s.obl := by
  unfold doFlat at h
  split at h
  · split at h
    · split at h <;> simp at h; obtain ⟨_, rfl⟩ := h; exact id
    · simp at h
  · simp at h
theorem doFieldAddr_obl {P : Program} {s s' : St} {t : TypeId} {x v : Value} {f : Nat} (h : doFieldAddr P s t x f = some (v, s')) : s'.obl → s.obl := by
  unfold doFieldAddr at h
  split at h
  · split at h
    · split at h
      · simp only [Option.some.injEq, Prod.mk.injEq] at h; obtain ⟨_, rfl⟩ := h; exact id
      · cases h
    · cases h
  · split at h
    · split at h
      · split at h
        · simp only [Option.some.injEq, Prod.mk.injEq] at h; obtain ⟨_, rfl⟩ := h; exact id
        · cases h
      · cases h
    · cases h
  · cases h
theorem doIndexAddr_obl {P : Program} {s s' : St} {t : TypeId} {x ix v : Value} (h : doIndexAddr P s t x ix = some (v, s')) : s'.obl → s.obl := by
  unfold doIndexAddr at h
  split at h
  · simp at h
  · split at h
    · split at h
      · rw [bind_some] at h; obtain ⟨s1, h1, h⟩ := h; simp at h; obtain ⟨_, rfl⟩ := h; exact need_obl h1
      · simp at h
    · split at h
      · rw [bind_some] at h; obtain ⟨s1, h1, h⟩ := h; simp at h; obtain ⟨_, rfl⟩ := h; exact need_obl h1
      · simp at h
    · simp at h
theorem cutSlice_obl {P : Program} {s s' : St} {lo hi : Option Value} {b o len cap elem : Nat} {g : Option Nat} {v : Value} (h : cutSlice P s lo hi b o g len cap elem = some (v, s')) : s'.obl → s.obl := by
  obtain ⟨_, _, _, _, _, _, _, _, _, _, _, k⟩ := cutSlice_spec h; exact fun x => (k x).1
theorem doSlice_obl {P : Program} {s s' : St} {t : TypeId} {x v : Value} {lo hi : Option Value} (h : doSlice P s t x lo hi = some (v, s')) : s'.obl → s.obl := by
  unfold doSlice at h
  split at h
  · exact cutSlice_obl h
  · exact cutSlice_obl h
  · simp at h
theorem doSlice3_obl {P : Program} {s s' : St} {t : TypeId} {x v : Value} {lo hi mx : Option Value} (h : doSlice3 P s t x lo hi mx = some (v, s')) : s'.obl → s.obl := by
  unfold doSlice3 at h
  split at h
  · unfold cutSlice3 at h
    split at h
    · split at h
      · rw [bind_some] at h; obtain ⟨s1, h1, h⟩ := h; simp at h; obtain ⟨_, rfl⟩ := h; exact need_obl h1
      · simp at h
    · simp at h
  · simp at h
theorem doBuild_obl {P : Program} {s s' : St} {t : TypeId} {ps : List (Nat × Operand)} {v : Value} (h : doBuild P s t ps = some (v, s')) : s'.obl → s.obl := by
  unfold doBuild at h
  rw [bind_some] at h; obtain ⟨z, _, h⟩ := h
  rw [bind_some] at h; obtain ⟨vs, _, h⟩ := h
  split at h
  · rw [bind_some] at h; obtain ⟨_, _, h⟩ := h
    rw [bind_some] at h; obtain ⟨_, _, h⟩ := h
    simp at h; obtain ⟨_, rfl⟩ := h; exact id
  · rw [bind_some] at h; obtain ⟨_, _, h⟩ := h
    rw [bind_some] at h; obtain ⟨_, _, h⟩ := h
    simp at h; obtain ⟨_, rfl⟩ := h; exact id
  · simp at h
theorem doField_obl {P : Program} {s s' : St} {t : TypeId} {x v : Value} {f : Nat} (h : doField P s t x f = some (v, s')) : s'.obl → s.obl := by
  unfold doField at h
  split at h
  · split at h
    · rw [bind_some] at h; obtain ⟨_, _, h⟩ := h; simp at h; obtain ⟨_, rfl⟩ := h; exact id
    · simp at h
  · simp at h
theorem doIndex_obl {P : Program} {s s' : St} {t : TypeId} {x ix v : Value} (h : doIndex P s t x ix = some (v, s')) : s'.obl → s.obl := by
  unfold doIndex at h
  split at h
  · split at h
    · rw [bind_some] at h; obtain ⟨s1, h1, h⟩ := h
      rw [bind_some] at h; obtain ⟨_, _, h⟩ := h; simp at h; obtain ⟨_, rfl⟩ := h; exact need_obl h1
    · simp at h
  · simp at h
theorem doExtract_obl {s s' : St} {x v : Value} {i : Nat} (h : doExtract s x i = some (v, s')) : s'.obl → s.obl := by
  unfold doExtract at h
  split at h
  · split at h <;> simp at h; obtain ⟨_, rfl⟩ := h; exact id
  · simp at h
theorem doLen_obl {P : Program} {s s' : St} {ts : Array TypeId} {vs : List Value} {v : Value} (h : doLen P s ts vs = some (v, s')) : s'.obl → s.obl := by
  unfold doLen at h
  split at h
  · split at h
    · split at h <;> simp at h; obtain ⟨_, rfl⟩ := h; exact id
    · simp at h
  · simp at h
theorem doEq_obl {P : Program} {s s' : St} {n : Bool} {t : TypeId} {x y v : Value} (h : doEq P s n t x y = some (v, s')) : s'.obl → s.obl := by
  unfold doEq at h
  simp only at h
  split at h <;> (try split at h) <;> simp only [Option.some.injEq, Prod.mk.injEq, reduceCtorEq] at h <;> (obtain ⟨_, rfl⟩ := h; exact id)
theorem softNil_obl {P : Program} {s s' : St} {n : Bool} {t : TypeId} {x y v : Value} (h : softNil P s n t x y = some (v, s')) : s'.obl → s.obl := by
  unfold softNil at h
  split at h
  · split at h
    · split at h
      · split at h
        · simp only [Option.some.injEq, Prod.mk.injEq] at h; obtain ⟨rfl, rfl⟩ := h; exact fun k => k.1
        · cases h
      · cases h
    · cases h
  · cases h
theorem appendIn_obl {s s' : St} {size sLen sCap n : Nat} {base : Option Addr} {x v : Value} (h : appendIn s size sLen sCap n base x = some (v, s')) : s'.obl → s.obl := by
  unfold appendIn at h
  rw [bind_some] at h; obtain ⟨⟨l, s1⟩, hr, h⟩ := h
  split at h
  · simp at h; obtain ⟨_, rfl⟩ := h; exact srcCells_obl hr
  · split at h
    · simp at h; obtain ⟨_, rfl⟩ := h; exact srcCells_obl hr
    · split at h
      · rw [bind_some] at h; obtain ⟨s2, h2, h⟩ := h
        simp at h; obtain ⟨_, rfl⟩ := h; exact fun k => srcCells_obl hr (storeAll_obl h2 k)
      · simp at h
theorem appendNone_obl {P : Program} {s s' : St} {ts : Array TypeId} {vs : List Value} {v : Value} (h : appendNone P s ts vs = some (v, s')) : s'.obl → s.obl := by
  unfold appendNone at h
  repeat' split at h
  all_goals first
    | (simp only [Option.some.injEq, Prod.mk.injEq] at h; obtain ⟨_, rfl⟩ := h; exact id)
    | cases h
theorem rowsAppend_obl {P : Program} {s s' : St} {ts : Array TypeId} {vs : List Value} {v : Value} (h : rowsAppend P s ts vs = some (v, s')) : s'.obl → s.obl := by
  unfold rowsAppend at h
  split at h
  · split at h
    · split at h
      · split at h
        · split at h
          · split at h
            · split at h
              · cases h
              · rw [bind_some] at h
                obtain ⟨⟨e, s1⟩, hb, h⟩ := h
                have k := (St.branch_spec hb).2.2.2
                split at h
                · simp only [Option.some.injEq, Prod.mk.injEq] at h; obtain ⟨_, rfl⟩ := h; exact fun q => (k q).1
                · rw [bind_some] at h
                  obtain ⟨⟨b, s2⟩, ha, h⟩ := h
                  simp only [Option.some.injEq, Prod.mk.injEq] at h; obtain ⟨_, rfl⟩ := h
                  exact fun q => (k (alloc_obl ha q).1).1
            · cases h
          · cases h
        · cases h
      · cases h
    · cases h
  · cases h
theorem doAppend_obl {P : Program} {s s' : St} {ts : Array TypeId} {vs : List Value} {v : Value} (h : doAppend P s ts vs = some (v, s')) : s'.obl → s.obl := by
  unfold doAppend at h
  split at h
  · split at h
    · cases h
    split at h
    · split at h
      · split at h
        · split at h
          · simp at h
          · split at h
            · exact fun k => (appendNew_obl h k).1
            split at h
            · exact appendIn_obl h
            · split at h
              · exact appendNew_obl h
              · simp at h
        · simp at h
      · simp at h
    · simp at h
  · simp at h
theorem doCopy_obl {P : Program} {s s' : St} {ts : Array TypeId} {vs : List Value} {v : Value} (h : doCopy P s ts vs = some (v, s')) : s'.obl → s.obl := by
  unfold doCopy at h
  split at h
  · split at h
    · cases h
    split at h
    · split at h
      · split at h
        · simp only at h
          rw [bind_some] at h; obtain ⟨⟨l, s1⟩, hr, h⟩ := h
          split at h
          · simp at h; obtain ⟨_, rfl⟩ := h; exact srcCells_obl hr
          · split at h
            · simp at h; obtain ⟨_, rfl⟩ := h; exact srcCells_obl hr
            · rw [bind_some] at h; obtain ⟨s2, h2, h⟩ := h
              simp at h; obtain ⟨_, rfl⟩ := h; exact fun k => srcCells_obl hr (storeAll_obl h2 k)
        · simp at h
      · simp at h
    · simp at h
  · simp at h
theorem doClear_obl {P : Program} {s s' : St} {ts : Array TypeId} {vs : List Value} {v : Value} (h : doClear P s ts vs = some (v, s')) : s'.obl → s.obl := by
  unfold doClear at h
  split at h
  · split at h
    · cases h
    split at h
    · split at h
      · split at h
        · simp at h; obtain ⟨_, rfl⟩ := h; exact id
        · split at h
          · rw [bind_some] at h; obtain ⟨s2, h2, h⟩ := h
            simp at h; obtain ⟨_, rfl⟩ := h; exact storeAll_obl h2
          · simp at h
      · simp at h
    · simp at h
  · simp at h
theorem doMakeSlice_obl {P : Program} {s s' : St} {t : TypeId} {l c v : Value} (h : doMakeSlice P s t l c = some (v, s')) : s'.obl → s.obl := by
  unfold doMakeSlice at h
  split at h
  · split at h
    · split at h
      · split at h
        · rw [bind_some] at h; obtain ⟨s1, h1, h⟩ := h
          rw [bind_some] at h; obtain ⟨⟨b, s2⟩, h2, h⟩ := h
          simp only [Option.some.injEq, Prod.mk.injEq] at h; obtain ⟨_, rfl⟩ := h
          exact fun k => need_obl h1 (alloc_obl h2 k)
        · simp at h
      · simp at h
    · simp at h
  · simp at h
theorem doBuildSlice_obl {P : Program} {s s' : St} {t : TypeId} {n : Nat} {ps : List (Nat × Operand)} {v : Value} (h : doBuildSlice P s t n ps = some (v, s')) : s'.obl → s.obl := by
  unfold doBuildSlice at h
  split at h
  · split at h
    · split at h
      · split at h
        · rw [bind_some] at h; obtain ⟨_, _, h⟩ := h
          rw [bind_some] at h; obtain ⟨_, _, h⟩ := h
          rw [bind_some] at h; obtain ⟨⟨b, s2⟩, h2, h⟩ := h
          simp only [Option.some.injEq, Prod.mk.injEq] at h; obtain ⟨_, rfl⟩ := h
          exact alloc_obl h2
        · simp at h
      · simp at h
    · simp at h
  · simp at h
theorem doConvert_obl {P : Program} {s s' : St} {a b : TypeId} {x v : Value} (h : doConvert P s a b x = some (v, s')) : s'.obl → s.obl := by
  unfold doConvert at h
  split at h
  · split at h
    · split at h
      · simp at h; obtain ⟨_, rfl⟩ := h; exact id
      · split at h
        · rw [bind_some] at h; obtain ⟨c, _, h⟩ := h
          rw [bind_some] at h; obtain ⟨⟨l, s1⟩, hr, h⟩ := h
          rw [bind_some] at h; obtain ⟨_, _, h⟩ := h
          simp only [Option.some.injEq, Prod.mk.injEq] at h; obtain ⟨_, rfl⟩ := h; exact readN_obl hr
        · split at h
          · rw [bind_some] at h; obtain ⟨⟨l, s1⟩, hr, h⟩ := h
            rw [bind_some] at h; obtain ⟨_, _, h⟩ := h
            simp at h; obtain ⟨_, rfl⟩ := h; exact readN_obl hr
          · simp at h
    · simp at h
  · split at h
    · exact newRowOf_obl h
    · simp at h
  · split at h
    · cases h
    split at h
    · split at h <;> simp at h; obtain ⟨_, rfl⟩ := h; exact id
    · simp at h
  · simp at h
theorem doStore_obl {P : Program} {s s' : St} {t : TypeId} {a v u : Value} (h : doStore P s t a v = some (u, s')) : s'.obl → s.obl := (doStore_spec h).2.2
theorem newCells_obl {s s' : St} {t : TypeId} {l : List Value} {v : Value} (h : newCells s t l = some (v, s')) : s'.obl → s.obl := (newCells_spec h).2.2
theorem doLoad_obl {P : Program} {s s' : St} {t : TypeId} {a v : Value} (h : doLoad P s t a = some (v, s')) : s'.obl → s.obl := (doLoad_like h).2.2.2
structure OrcObl (ih : Orc) : Prop where
  code : ∀ {f : FuncId} {rd : Option Nat} {c : Code} {s s' : St} {e : Exit}, ih.code f rd c s = some (e, s') → s'.obl → s.obl
  call : ∀ {f : FuncId} {args : List Value} {s s' : St} {v : Value}, ih.call f args s = some (v, s') → s'.obl → s.obl
theorem doYield_obl {ih : Orc} (hi : OrcObl ih) {s s' : St} {l : Nat} {args : List Value} {v : Value} (h : doYield ih s l args = some (v, s')) : s'.obl → s.obl := by
  unfold doYield at h
  rw [bind_some] at h; obtain ⟨r, hr, h⟩ := h
  split at h
  · rw [bind_some] at h; obtain ⟨⟨e1, s1⟩, h1, h⟩ := h
    split at h
    · rw [bind_some] at h; obtain ⟨r1, hr1, h⟩ := h
      split at h
      · rw [bind_some] at h; obtain ⟨s2, h2, h⟩ := h
        rw [bind_some] at h; obtain ⟨⟨e3, s3⟩, h3, h⟩ := h
        rw [bind_some] at h; obtain ⟨j, hj, h⟩ := h
        rw [bind_some] at h; obtain ⟨r3, hr3, h⟩ := h
        rw [bind_some] at h; obtain ⟨s4, h4, h⟩ := h
        simp only [Option.some.injEq, Prod.mk.injEq] at h; obtain ⟨_, rfl⟩ := h
        exact fun k => by have := hi.code h1 (setOb_obl h2 (hi.code h3 (setOb_obl h4 k))); exact this
      · simp at h
    · simp at h
  · simp at h
theorem doCall_obl {P : Program} {ih : Orc} (hi : OrcObl ih) {s s' : St} {f : Value} {args : List Value} {v : Value} (h : doCall P ih s f args = some (v, s')) : s'.obl → s.obl := by
  unfold doCall at h
  split at h
  · unfold doEnter at h
    split at h
    · split at h
      · exact hi.call h
      · simp at h
    · simp at h
  · split at h
    · exact doYield_obl hi h
    · simp at h
  · simp at h
theorem doOp_obl {P : Program} {K : Given} {ih : Orc} (hi : OrcObl ih) {s s' : St} {o : Oper} {v : Value} (h : doOp P K ih s o = some (v, s')) : s'.obl → s.obl := by
  obtain ⟨dst, op, type, pos, after, guard⟩ := o
  cases op
  case move x => simp only [doOp, oMove, oPick, oAlloc, oBox, oLoad, oStore, oNilCheck, oMakeFunc, oFieldAddr, oIndexAddr, oSlice, oArrayAt, oMakeSlice, oField, oIndex, oExtract, oConvert, oEq, oBin, oUn, oBuiltin, oCall, oLookup, oMapUpdate, oMapEntry, oEntryStore, bind_some] at h; obtain ⟨u, _, h⟩ := h; simp at h; obtain ⟨_, rfl⟩ := h; exact id
  case assign x => simp only [doOp, oMove, oPick, oAlloc, oBox, oLoad, oStore, oNilCheck, oMakeFunc, oFieldAddr, oIndexAddr, oSlice, oArrayAt, oMakeSlice, oField, oIndex, oExtract, oConvert, oEq, oBin, oUn, oBuiltin, oCall, oLookup, oMapUpdate, oMapEntry, oEntryStore, bind_some] at h; obtain ⟨u, _, h⟩ := h; simp at h; obtain ⟨_, rfl⟩ := h; exact id
  case pick c x y =>
    simp only [doOp, oMove, oPick, oAlloc, oBox, oLoad, oStore, oNilCheck, oMakeFunc, oFieldAddr, oIndexAddr, oSlice, oArrayAt, oMakeSlice, oField, oIndex, oExtract, oConvert, oEq, oBin, oUn, oBuiltin, oCall, oLookup, oMapUpdate, oMapEntry, oEntryStore, bind_some] at h
    obtain ⟨_, _, _, _, _, _, h⟩ := h
    split at h
    · rw [bind_some] at h; obtain ⟨⟨e, s1⟩, hb, h⟩ := h
      simp only [Option.some.injEq, Prod.mk.injEq] at h; obtain ⟨_, rfl⟩ := h; exact branch_obl hb
    · simp at h
  case alloc t => simp only [doOp, oMove, oPick, oAlloc, oBox, oLoad, oStore, oNilCheck, oMakeFunc, oFieldAddr, oIndexAddr, oSlice, oArrayAt, oMakeSlice, oField, oIndex, oExtract, oConvert, oEq, oBin, oUn, oBuiltin, oCall, oLookup, oMapUpdate, oMapEntry, oEntryStore, bind_some] at h; obtain ⟨u, _, h⟩ := h; exact newCells_obl h
  case sliceToArrayPointer t x => simp only [doOp, oMove, oPick, oAlloc, oBox, oLoad, oStore, oNilCheck, oMakeFunc, oFieldAddr, oIndexAddr, oSlice, oArrayAt, oMakeSlice, oField, oIndex, oExtract, oConvert, oEq, oBin, oUn, oBuiltin, oCall, oLookup, oMapUpdate, oMapEntry, oEntryStore, bind_some] at h; obtain ⟨u, _, h⟩ := h; exact doArrayAt_obl h
  case makeMap t r => simp only [doOp, oMove, oPick, oAlloc, oBox, oLoad, oStore, oNilCheck, oMakeFunc, oFieldAddr, oIndexAddr, oSlice, oArrayAt, oMakeSlice, oField, oIndex, oExtract, oConvert, oEq, oBin, oUn, oBuiltin, oCall, oLookup, oMapUpdate, oMapEntry, oEntryStore] at h; exact doMakeMap_obl h
  case lookup t x k c => simp only [doOp, oMove, oPick, oAlloc, oBox, oLoad, oStore, oNilCheck, oMakeFunc, oFieldAddr, oIndexAddr, oSlice, oArrayAt, oMakeSlice, oField, oIndex, oExtract, oConvert, oEq, oBin, oUn, oBuiltin, oCall, oLookup, oMapUpdate, oMapEntry, oEntryStore, bind_some] at h; obtain ⟨u, _, u2, _, h⟩ := h; exact (doLookup_like h).2.2.2
  case mapUpdate t m k x => simp only [doOp, oMove, oPick, oAlloc, oBox, oLoad, oStore, oNilCheck, oMakeFunc, oFieldAddr, oIndexAddr, oSlice, oArrayAt, oMakeSlice, oField, oIndex, oExtract, oConvert, oEq, oBin, oUn, oBuiltin, oCall, oLookup, oMapUpdate, oMapEntry, oEntryStore, bind_some] at h; obtain ⟨u, _, u2, _, u3, _, h⟩ := h; exact doMapUpdate_obl h
  case insert t m k x => simp only [doOp, oMove, oPick, oAlloc, oBox, oLoad, oStore, oNilCheck, oMakeFunc, oFieldAddr, oIndexAddr, oSlice, oArrayAt, oMakeSlice, oField, oIndex, oExtract, oConvert, oEq, oBin, oUn, oBuiltin, oCall, oLookup, oMapUpdate, oMapEntry, oEntryStore, bind_some] at h; obtain ⟨u, _, u2, _, u3, _, h⟩ := h; exact doMapUpdate_obl h
  case mapEntry t m k => simp only [doOp, oMove, oPick, oAlloc, oBox, oLoad, oStore, oNilCheck, oMakeFunc, oFieldAddr, oIndexAddr, oSlice, oArrayAt, oMakeSlice, oField, oIndex, oExtract, oConvert, oEq, oBin, oUn, oBuiltin, oCall, oLookup, oMapUpdate, oMapEntry, oEntryStore, bind_some] at h; obtain ⟨u, _, u2, _, h⟩ := h; exact doMapEntry_obl h
  case entryStore t m k x => simp only [doOp, oMove, oPick, oAlloc, oBox, oLoad, oStore, oNilCheck, oMakeFunc, oFieldAddr, oIndexAddr, oSlice, oArrayAt, oMakeSlice, oField, oIndex, oExtract, oConvert, oEq, oBin, oUn, oBuiltin, oCall, oLookup, oMapUpdate, oMapEntry, oEntryStore, bind_some] at h; obtain ⟨u, _, u2, _, u3, _, h⟩ := h; exact doEntryStore_obl h
  case box t x => simp only [doOp, oMove, oPick, oAlloc, oBox, oLoad, oStore, oNilCheck, oMakeFunc, oFieldAddr, oIndexAddr, oSlice, oArrayAt, oMakeSlice, oField, oIndex, oExtract, oConvert, oEq, oBin, oUn, oBuiltin, oCall, oLookup, oMapUpdate, oMapEntry, oEntryStore, bind_some] at h; obtain ⟨u, _, h⟩ := h; exact newCells_obl h
  case load t x => simp only [doOp, oMove, oPick, oAlloc, oBox, oLoad, oStore, oNilCheck, oMakeFunc, oFieldAddr, oIndexAddr, oSlice, oArrayAt, oMakeSlice, oField, oIndex, oExtract, oConvert, oEq, oBin, oUn, oBuiltin, oCall, oLookup, oMapUpdate, oMapEntry, oEntryStore, bind_some] at h; obtain ⟨u, _, h⟩ := h; exact doLoad_obl h
  case store t x y => simp only [doOp, oMove, oPick, oAlloc, oBox, oLoad, oStore, oNilCheck, oMakeFunc, oFieldAddr, oIndexAddr, oSlice, oArrayAt, oMakeSlice, oField, oIndex, oExtract, oConvert, oEq, oBin, oUn, oBuiltin, oCall, oLookup, oMapUpdate, oMapEntry, oEntryStore, bind_some] at h; obtain ⟨u, _, u2, _, h⟩ := h; exact doStore_obl h
  case nilCheck x =>
    simp only [doOp, oMove, oPick, oAlloc, oBox, oLoad, oStore, oNilCheck, oMakeFunc, oFieldAddr, oIndexAddr, oSlice, oArrayAt, oMakeSlice, oField, oIndex, oExtract, oConvert, oEq, oBin, oUn, oBuiltin, oCall, oLookup, oMapUpdate, oMapEntry, oEntryStore, bind_some] at h; obtain ⟨u, _, h⟩ := h
    split at h <;> simp at h <;> (obtain ⟨_, rfl⟩ := h; exact id)
  case makeFunc fn first cap =>
    cases fn <;> simp only [doOp, oMove, oPick, oAlloc, oBox, oLoad, oStore, oNilCheck, oMakeFunc, oFieldAddr, oIndexAddr, oSlice, oArrayAt, oMakeSlice, oField, oIndex, oExtract, oConvert, oEq, oBin, oUn, oBuiltin, oCall, oLookup, oMapUpdate, oMapEntry, oEntryStore] at h <;> try (exact doFlat_obl h)
    rw [bind_some] at h; obtain ⟨_, _, h⟩ := h
    rw [bind_some] at h; obtain ⟨_, _, h⟩ := h
    simp at h; obtain ⟨_, rfl⟩ := h; exact id
  case fieldAddr t x f => simp only [doOp, oMove, oPick, oAlloc, oBox, oLoad, oStore, oNilCheck, oMakeFunc, oFieldAddr, oIndexAddr, oSlice, oArrayAt, oMakeSlice, oField, oIndex, oExtract, oConvert, oEq, oBin, oUn, oBuiltin, oCall, oLookup, oMapUpdate, oMapEntry, oEntryStore, bind_some] at h; obtain ⟨u, _, h⟩ := h; exact doFieldAddr_obl h
  case indexAddr t x ix => simp only [doOp, oMove, oPick, oAlloc, oBox, oLoad, oStore, oNilCheck, oMakeFunc, oFieldAddr, oIndexAddr, oSlice, oArrayAt, oMakeSlice, oField, oIndex, oExtract, oConvert, oEq, oBin, oUn, oBuiltin, oCall, oLookup, oMapUpdate, oMapEntry, oEntryStore, bind_some] at h; obtain ⟨u, _, u2, _, h⟩ := h; exact doIndexAddr_obl h
  case slice t x lo hi' mx =>
    cases mx with
    | none =>
      simp only [doOp, oMove, oPick, oAlloc, oBox, oLoad, oStore, oNilCheck, oMakeFunc, oFieldAddr, oIndexAddr, oSlice, oArrayAt, oMakeSlice, oField, oIndex, oExtract, oConvert, oEq, oBin, oUn, oBuiltin, oCall, oLookup, oMapUpdate, oMapEntry, oEntryStore, bind_some] at h; obtain ⟨u, _, h⟩ := h
      split at h
      · exact doFlat_obl h
      · exact doFlat_obl h
      · split at h
        · simp at h
        · simp at h
        · exact doSlice_obl h
    | some m =>
      simp only [doOp, oMove, oPick, oAlloc, oBox, oLoad, oStore, oNilCheck, oMakeFunc, oFieldAddr, oIndexAddr, oSlice, oArrayAt, oMakeSlice, oField, oIndex, oExtract, oConvert, oEq, oBin, oUn, oBuiltin, oCall, oLookup, oMapUpdate, oMapEntry, oEntryStore, bind_some] at h; obtain ⟨u, _, m2, _, h⟩ := h
      split at h
      · exact doFlat_obl h
      · split at h
        · simp at h
        · simp at h
        · exact doSlice3_obl h
  case makeSlice t l c => simp only [doOp, oMove, oPick, oAlloc, oBox, oLoad, oStore, oNilCheck, oMakeFunc, oFieldAddr, oIndexAddr, oSlice, oArrayAt, oMakeSlice, oField, oIndex, oExtract, oConvert, oEq, oBin, oUn, oBuiltin, oCall, oLookup, oMapUpdate, oMapEntry, oEntryStore, bind_some] at h; obtain ⟨u, _, u2, _, h⟩ := h; exact doMakeSlice_obl h
  case build t ps => exact doBuild_obl h
  case buildSlice t n ps => exact doBuildSlice_obl h
  case field t x f => simp only [doOp, oMove, oPick, oAlloc, oBox, oLoad, oStore, oNilCheck, oMakeFunc, oFieldAddr, oIndexAddr, oSlice, oArrayAt, oMakeSlice, oField, oIndex, oExtract, oConvert, oEq, oBin, oUn, oBuiltin, oCall, oLookup, oMapUpdate, oMapEntry, oEntryStore, bind_some] at h; obtain ⟨u, _, h⟩ := h; exact doField_obl h
  case index t x ix =>
    simp only [doOp, oMove, oPick, oAlloc, oBox, oLoad, oStore, oNilCheck, oMakeFunc, oFieldAddr, oIndexAddr, oSlice, oArrayAt, oMakeSlice, oField, oIndex, oExtract, oConvert, oEq, oBin, oUn, oBuiltin, oCall, oLookup, oMapUpdate, oMapEntry, oEntryStore, bind_some] at h; obtain ⟨u, _, u2, _, h⟩ := h
    split at h
    · exact doIndex_obl h
    · exact doFlat_obl h
  case extract x i => simp only [doOp, oMove, oPick, oAlloc, oBox, oLoad, oStore, oNilCheck, oMakeFunc, oFieldAddr, oIndexAddr, oSlice, oArrayAt, oMakeSlice, oField, oIndex, oExtract, oConvert, oEq, oBin, oUn, oBuiltin, oCall, oLookup, oMapUpdate, oMapEntry, oEntryStore, bind_some] at h; obtain ⟨u, _, h⟩ := h; exact doExtract_obl h
  case convert a b x =>
    simp only [doOp, oMove, oPick, oAlloc, oBox, oLoad, oStore, oNilCheck, oMakeFunc, oFieldAddr, oIndexAddr, oSlice, oArrayAt, oMakeSlice, oField, oIndex, oExtract, oConvert, oEq, oBin, oUn, oBuiltin, oCall, oLookup, oMapUpdate, oMapEntry, oEntryStore, bind_some] at h; obtain ⟨u, _, h⟩ := h
    split at h
    · exact fun ho => (let ⟨_, _, _, _, _, k4⟩ := fitted_spec h; (k4 ho).1)
    split at h
    · simp only [Option.some.injEq, Prod.mk.injEq] at h; obtain ⟨_, rfl⟩ := h; exact id
    · split at h
      · rename_i r hr; simp only [Option.some.injEq] at h; subst h; exact softConvert_obl hr
      split at h
      · rename_i r hr; simp only [Option.some.injEq] at h; subst h; exact doConvert_obl hr
      · exact doFlat_obl h
  case binOp op t x y ty =>
    simp only [doOp, oMove, oPick, oAlloc, oBox, oLoad, oStore, oNilCheck, oMakeFunc, oFieldAddr, oIndexAddr, oSlice, oArrayAt, oMakeSlice, oField, oIndex, oExtract, oConvert, oEq, oBin, oUn, oBuiltin, oCall, oLookup, oMapUpdate, oMapEntry, oEntryStore, bind_some] at h; obtain ⟨u, _, u2, _, h⟩ := h
    split at h
    · rename_i r hr; cases h; exact fun ho => ((remPin_spec (P := P) (t := t) (p := x) (q := y) hr).2.2.2.2.2.2 ho).1
    split at h
    · exact fun ho => (let ⟨_, _, _, _, _, k4⟩ := fitted_spec h; (k4 ho).1)
    split at h
    · simp only [Option.some.injEq, Prod.mk.injEq] at h; obtain ⟨_, rfl⟩ := h; exact id
    · split at h
      all_goals first
        | exact doFlat_obl h
        | (split at h
           · rename_i r hr; simp only [Option.some.injEq] at h; subst h; first | exact doEq_obl hr | exact doEqAgg_obl hr
           · first
               | exact doFlat_obl h
               | (split at h
                  · rename_i r hr; simp only [Option.some.injEq] at h; subst h; exact softNil_obl hr
                  · exact doFlat_obl h))
  case unOp op t x =>
    simp only [doOp, oMove, oPick, oAlloc, oBox, oLoad, oStore, oNilCheck, oMakeFunc, oFieldAddr, oIndexAddr, oSlice, oArrayAt, oMakeSlice, oField, oIndex, oExtract, oConvert, oEq, oBin, oUn, oBuiltin, oCall, oLookup, oMapUpdate, oMapEntry, oEntryStore, bind_some] at h; obtain ⟨u, _, h⟩ := h
    split at h
    · simp only [Option.some.injEq, Prod.mk.injEq] at h; obtain ⟨_, rfl⟩ := h; exact id
    · exact doFlat_obl h
  case call c =>
    obtain ⟨callee, args, argTypes⟩ := c
    cases callee with
    | value f => simp only [doOp, oMove, oPick, oAlloc, oBox, oLoad, oStore, oNilCheck, oMakeFunc, oFieldAddr, oIndexAddr, oSlice, oArrayAt, oMakeSlice, oField, oIndex, oExtract, oConvert, oEq, oBin, oUn, oBuiltin, oCall, oLookup, oMapUpdate, oMapEntry, oEntryStore, bind_some] at h; obtain ⟨u, _, u2, _, h⟩ := h; exact doCall_obl hi h
    | invoke r m => simp [doOp, oMove, oPick, oAlloc, oBox, oLoad, oStore, oNilCheck, oMakeFunc, oFieldAddr, oIndexAddr, oSlice, oArrayAt, oMakeSlice, oField, oIndex, oExtract, oConvert, oEq, oBin, oUn, oBuiltin, oCall, oLookup, oMapUpdate, oMapEntry, oEntryStore] at h
    | builtin b =>
      cases b
      case append =>
        simp only [doOp, oMove, oPick, oAlloc, oBox, oLoad, oStore, oNilCheck, oMakeFunc, oFieldAddr, oIndexAddr, oSlice, oArrayAt, oMakeSlice, oField, oIndex, oExtract, oConvert, oEq, oBin, oUn, oBuiltin, oCall, oLookup, oMapUpdate, oMapEntry, oEntryStore, bind_some] at h; obtain ⟨u, _, h⟩ := h
        split at h
        · rename_i r hr; simp only [Option.some.injEq] at h; subst h; exact appendNone_obl hr
        split at h
        · rename_i r hr; simp only [Option.some.injEq] at h; subst h; exact rowsAppend_obl hr
        split at h
        · rename_i r hr; simp only [Option.some.injEq] at h; subst h; exact softAppend_obl hr
        split at h
        · rename_i r hr; simp only [Option.some.injEq] at h; subst h; exact softZeroes_obl hr
        split at h
        · rename_i r hr; simp only [Option.some.injEq] at h; subst h; exact softAppZ_obl hr
        split at h
        · rename_i r hr; simp only [Option.some.injEq] at h; subst h; exact doZeroes_obl hr
        · exact doAppend_obl h
      case copy =>
        simp only [doOp, oMove, oPick, oAlloc, oBox, oLoad, oStore, oNilCheck, oMakeFunc, oFieldAddr, oIndexAddr, oSlice, oArrayAt, oMakeSlice, oField, oIndex, oExtract, oConvert, oEq, oBin, oUn, oBuiltin, oCall, oLookup, oMapUpdate, oMapEntry, oEntryStore, bind_some] at h; obtain ⟨u, _, h⟩ := h
        split at h
        · rename_i r hr; simp only [Option.some.injEq] at h; subst h; exact softCopy_obl hr
        · exact doCopy_obl h
      case clear =>
        simp only [doOp, oMove, oPick, oAlloc, oBox, oLoad, oStore, oNilCheck, oMakeFunc, oFieldAddr, oIndexAddr, oSlice, oArrayAt, oMakeSlice, oField, oIndex, oExtract, oConvert, oEq, oBin, oUn, oBuiltin, oCall, oLookup, oMapUpdate, oMapEntry, oEntryStore, bind_some] at h; obtain ⟨u, _, h⟩ := h
        split at h
        · rename_i r hr; simp only [Option.some.injEq] at h; subst h; exact softClear_obl hr
        · exact doClear_obl h
      case len =>
        simp only [doOp, oMove, oPick, oAlloc, oBox, oLoad, oStore, oNilCheck, oMakeFunc, oFieldAddr, oIndexAddr, oSlice, oArrayAt, oMakeSlice, oField, oIndex, oExtract, oConvert, oEq, oBin, oUn, oBuiltin, oCall, oLookup, oMapUpdate, oMapEntry, oEntryStore] at h
        split at h
        · rw [bind_some] at h; obtain ⟨u, _, h⟩ := h; exact doLenMap_obl h
        · rw [bind_some] at h; obtain ⟨u, _, h⟩ := h
          split at h
          · rename_i r hr; simp only [Option.some.injEq] at h; subst h; exact doLen_obl hr
          · exact doFlat_obl h
      case max =>
        simp only [doOp, oCall, oBuiltin, bind_some] at h; obtain ⟨u, _, h⟩ := h
        split at h
        · rename_i r hr; simp only [Option.some.injEq] at h; subst h; obtain ⟨_, _, _, _, _, _, _, _, _, k⟩ := doMax_spec hr; exact fun ho => (k ho).1
        · exact doFlat_obl h
      case min =>
        simp only [doOp, oCall, oBuiltin, bind_some] at h; obtain ⟨u, _, h⟩ := h
        split at h
        · rename_i r hr; simp only [Option.some.injEq] at h; subst h; obtain ⟨_, _, _, _, _, _, _, _, _, k⟩ := doMin_spec hr; exact fun ho => (k ho).1
        · exact doFlat_obl h
      case delete => simp only [doOp, oMove, oPick, oAlloc, oBox, oLoad, oStore, oNilCheck, oMakeFunc, oFieldAddr, oIndexAddr, oSlice, oArrayAt, oMakeSlice, oField, oIndex, oExtract, oConvert, oEq, oBin, oUn, oBuiltin, oCall, oLookup, oMapUpdate, oMapEntry, oEntryStore, bind_some] at h; obtain ⟨u, _, h⟩ := h; exact doDelete_obl h
      all_goals (simp only [doOp, oMove, oPick, oAlloc, oBox, oLoad, oStore, oNilCheck, oMakeFunc, oFieldAddr, oIndexAddr, oSlice, oArrayAt, oMakeSlice, oField, oIndex, oExtract, oConvert, oEq, oBin, oUn, oBuiltin, oCall, oLookup, oMapUpdate, oMapEntry, oEntryStore] at h; exact doFlat_obl h)
  case select cs b => simp [doOp, oMove, oPick, oAlloc, oBox, oLoad, oStore, oNilCheck, oMakeFunc, oFieldAddr, oIndexAddr, oSlice, oArrayAt, oMakeSlice, oField, oIndex, oExtract, oConvert, oEq, oBin, oUn, oBuiltin, oCall, oLookup, oMapUpdate, oMapEntry, oEntryStore] at h
  case go c => simp [doOp, oMove, oPick, oAlloc, oBox, oLoad, oStore, oNilCheck, oMakeFunc, oFieldAddr, oIndexAddr, oSlice, oArrayAt, oMakeSlice, oField, oIndex, oExtract, oConvert, oEq, oBin, oUn, oBuiltin, oCall, oLookup, oMapUpdate, oMapEntry, oEntryStore] at h
  case defer c => simp [doOp, oMove, oPick, oAlloc, oBox, oLoad, oStore, oNilCheck, oMakeFunc, oFieldAddr, oIndexAddr, oSlice, oArrayAt, oMakeSlice, oField, oIndex, oExtract, oConvert, oEq, oBin, oUn, oBuiltin, oCall, oLookup, oMapUpdate, oMapEntry, oEntryStore] at h
  all_goals (simp only [doOp, oMove, oPick, oAlloc, oBox, oLoad, oStore, oNilCheck, oMakeFunc, oFieldAddr, oIndexAddr, oSlice, oArrayAt, oMakeSlice, oField, oIndex, oExtract, oConvert, oEq, oBin, oUn, oBuiltin, oCall, oLookup, oMapUpdate, oMapEntry, oEntryStore] at h; exact doFlat_obl h)
end Go.Cln
