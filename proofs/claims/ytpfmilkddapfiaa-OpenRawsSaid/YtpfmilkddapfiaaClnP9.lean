/- A determinate reading of Go's code: bytes and strings, slices built. -/
import Derived.Test.YtpfmilkddapfiaaClnP8
namespace Go.Cln
set_option linter.unusedVariables false
set_option linter.unusedSimpArgs false
set_option linter.deprecated false
theorem freeze_new (w : World) (c : Array Value) (t : TypeId) (n : Nat) : (w.alloc (.cells c t (0, 0))).freeze ⟨w.heap.size, n, none⟩ 1 = w.alloc (.cells c t (n, n + 1)) := by
  unfold World.freeze World.alloc
  simp only [Nat.one_ne_zero, if_false]
  congr 1
  apply Array.ext_getElem?
  intro i
  rw [Array.getElem?_modify]
  by_cases h : w.heap.size = i
  · subst h; simp
  · rw [if_neg h]; simp only [Array.getElem?_push]
    split
    · omega
    · rfl
theorem freeze_sound {s : St} {ρ : Nat → PB} {w : World} (hs : Hs s ρ w) {b : Nat} {c : Cells} {t : TypeId} (hb : s.heap.get b = some (.cells c t)) (hm : s.may b = true) :
    ∃ pc t', w.shape? (ρ b).blk = some (t', pc) ∧ Hs s ρ (w.freeze ⟨(ρ b).blk, pc, none⟩ 1) ∧ Tra s s ρ ρ w (w.freeze ⟨(ρ b).blk, pc, none⟩ 1) := by
  obtain ⟨pc, t', fr, h1, h2, h3, h4, h5⟩ := hs.cells hb
  have hroB : s.roB ≤ b := by simp [St.may] at hm; exact hm.1
  refine ⟨pc.size, t', by simp [World.shape?, h1], ?_⟩
  have hother : ∀ k, k ≠ (ρ b).blk → (w.freeze ⟨(ρ b).blk, pc.size, none⟩ 1).heap[k]? = w.heap[k]? := fun k hk => by
    unfold World.freeze; simp only [Nat.one_ne_zero, if_false]; rw [Array.getElem?_modify, if_neg (fun e => hk e.symm)]
  have hat : ∃ fr', (w.freeze ⟨(ρ b).blk, pc.size, none⟩ 1).heap[(ρ b).blk]? = some (.cells pc t' fr') ∧ FrOk fr' pc.size := by
    obtain ⟨lo, hi⟩ := fr
    have hf := h3 hroB
    unfold World.freeze; simp only [Nat.one_ne_zero, if_false]
    rw [Array.getElem?_modify, if_pos rfl, h1]
    refine ⟨_, rfl, ?_⟩
    split
    · right; exact Nat.le_refl _
    · rename_i hne
      rcases hf with hf | hf
      · simp at hf hne; exact absurd hf hne
      · right; simp at hf ⊢; omega
  obtain ⟨fr', g1, g2⟩ := hat
  have hsz : (w.freeze ⟨(ρ b).blk, pc.size, none⟩ 1).heap.size = w.heap.size := by unfold World.freeze; simp
  refine ⟨⟨⟨fun c' x hx => ?_, hs.inj, hs.far⟩, hs.hid, hs.wf⟩, ⟨Nat.le_refl _, fun _ _ => rfl, rfl, rfl, rfl, by omega, fun k _ hn => hother k fun e => hn b _ hb hm e.symm, fun c' x hx hmx => .inr ⟨c', x, hx, hmx, rfl⟩, rfl, rfl, rfl, fun _ _ => rfl⟩⟩
  by_cases hcb : c' = b
  · subst hcb
    rw [hb] at hx; cases hx
    exact ⟨h4, pc, t', fr', g1, h2, fun _ => g2, h5⟩
  · obtain ⟨o1, o2⟩ := hs.ob c' x hx
    exact ⟨o1, o2.congr id (fun q => hother _ fun e => hcb (hs.injM hx hb (may_ro hm) e q)) (by omega) fun B hB => hother B fun e => hs.far c' b x _ B hx hB hb hroB e.symm⟩
theorem doConvert_sound {P : Program} {s s' : St} {src dst : TypeId} {x x' v : Value} {ρ : Nat → PB} {w : World} (h : doConvert P s src dst x = some (v, s')) (ho : s'.obl) (hs : Hs s ρ w) (hx : VR (Dm s) ρ x x') :
    ∃ v' w' ρ', (convert src dst x').run P w = .ok v' w' ∧ VR (Dm s') ρ' v v' ∧ Hs s' ρ' w' ∧ Tra s s' ρ ρ' w w' := by
  unfold doConvert at h
  split at h
  · rename_i e b o g len cap hus hud
    split at h
    · rename_i hue
      split at h
      · rename_i hl0; subst hl0
        simp at h; obtain ⟨rfl, rfl⟩ := h
        cases hx with
        | same hf => simp [flat0] at hf
        | slice _ _ _ => exact ⟨.string ⟨#[]⟩, w, ρ, by simp [convert, run_underlying hus, run_underlying hud, run_underlying hue, Conv.bytesToString, loadCells, loadCellsFrom]; rfl, .same rfl, hs, Tra.refl _ _ _⟩
        | abs _ hg k =>
          obtain ⟨_, rfl | ⟨rfl, a, c', rfl⟩⟩ := k
          · exact ⟨.string ⟨#[]⟩, w, ρ, by simp [convert, run_underlying hus, run_underlying hud, run_underlying hue, Conv.bytesToString, loadCells, loadCellsFrom]; rfl, .same rfl, hs, Tra.refl _ _ _⟩
          · refine ⟨.string ⟨#[]⟩, w, ρ, ?_, .same rfl, hs, Tra.refl _ _ _⟩
            cases a <;> simp [convert, run_underlying hus, run_underlying hud, run_underlying hue, Conv.bytesToString, loadCells, loadCellsFrom] <;> rfl
      · rename_i hl0
        by_cases hga : isAbs g = true
        · rw [if_pos hga, bind_some] at h
          obtain ⟨c, hmm, h⟩ := h
          rw [bind_some] at h
          obtain ⟨⟨l, s1⟩, hr, h⟩ := h
          rw [bind_some] at h
          obtain ⟨bs, hbs, h⟩ := h
          simp only [Option.some.injEq, Prod.mk.injEq] at h; obtain ⟨rfl, rfl⟩ := h
          obtain ⟨k1, k2, k3, hl, hg⟩ := cells_readN hr
          obtain ⟨l', hv, hload⟩ := hs.absPart (P := P) hmm hl (hg ho).2
          cases hx with
          | same hf => simp [flat0] at hf
          | slice _ _ hok =>
            exfalso
            cases g with
            | none => cases hga
            | some z => have := (hok.2.2 z rfl).2.2; have := Nat.le_of_ble_eq_true hga; omega
          | abs _ _ k =>
            obtain ⟨hcl, rfl | ⟨rfl, _⟩⟩ := k
            · refine ⟨.string ⟨bs.toArray⟩, w, ρ, ?_, .same rfl, k1.holds hs, k1.tra _ _⟩
              simp only [convert, Sem.run_bind, run_underlying hus, run_underlying hud, run_underlying hue, Result.andThen_ok, Conv.bytesToString, hload w rfl]
              rw [← Array.forIn_toList]
              have hll := (bytes_sound (fun v s => match v with | .int .u8 n => pure (.yield (s.push (UInt8.ofNat n.toNat))) | _ => pure (.yield s)) (fun n s => rfl) hbs hv).1
              have key : ∀ f : Value → ByteArray → Sem (ForInStep ByteArray), (∀ n s, f (.int .u8 n) s = pure (ForInStep.yield (s.push (UInt8.ofNat n.toNat)))) →
                  (forIn l' ByteArray.empty f).run P w = .ok ⟨ByteArray.empty.data ++ bs.toArray⟩ w := fun f hf => by
                have := (bytes_sound f hf hbs hv).2 P w .empty
                rw [hll]; exact this
              rw [key]
              · simp [ByteArray.empty, ByteArray.emptyWithCapacity]; rfl
              · intro n s; rfl
            · omega
        rw [if_neg hga] at h
        split at h
        · rename_i c t hb
          rw [bind_some] at h
          obtain ⟨⟨l, s1⟩, hr, h⟩ := h
          rw [bind_some] at h
          obtain ⟨bs, hbs, h⟩ := h
          simp at h; obtain ⟨rfl, rfl⟩ := h
          obtain ⟨k1, k2, k3, hl, hg⟩ := cells_readN hr
          obtain ⟨pc, t', fr, h1, h2, _, h4, h5⟩ := hs.cells hb
          obtain ⟨hle, hv⟩ := part_cells h5 hl (hg ho).2
          cases hx with
          | same hf => simp [flat0] at hf
          | slice hlt hcl hok =>
            have ea := hok.at (by omega)
            subst ea
            have hload := run_loads P (ρ b).blk ((ρ b).off + o) len h1 (by omega)
            refine ⟨.string ⟨bs.toArray⟩, w, ρ, ?_, .same rfl, k1.holds hs, k1.tra _ _⟩
            simp only [convert, Sem.run_bind, run_underlying hus, run_underlying hud, run_underlying hue, Result.andThen_ok, Conv.bytesToString, hload]
            rw [← Array.forIn_toList]
            have hll := (bytes_sound (fun v s => match v with | .int .u8 n => pure (.yield (s.push (UInt8.ofNat n.toNat))) | _ => pure (.yield s)) (fun n s => rfl) hbs hv).1
            have key : ∀ f : Value → ByteArray → Sem (ForInStep ByteArray), (∀ n s, f (.int .u8 n) s = pure (ForInStep.yield (s.push (UInt8.ofNat n.toNat)))) →
                (forIn (List.take len (List.drop ((ρ b).off + o) pc.toList)) ByteArray.empty f).run P w = .ok ⟨ByteArray.empty.data ++ bs.toArray⟩ w := fun f hf => by
              have := (bytes_sound f hf hbs hv).2 P w .empty
              rw [hll]; exact this
            rw [key]
            · simp [ByteArray.empty, ByteArray.emptyWithCapacity]; rfl
            · intro n s; rfl
          | abs _ hg _ => exact absurd hg hga
        · simp at h
    · simp at h
  · rename_i e t hus hud
    split at h
    · rename_i hue
      cases hx.eq_flat0 rfl
      have hcap : t.size ≤ (Question.appendCap t.size 0 e).cut (w.tape w.drawn (.appendCap t.size 0 e)) := by simp [Question.cut]
      have hl : VL (Dm s) ρ (t.data.map fun (b : UInt8) => Value.int .u8 b.toNat).toList (t.data.map fun (b : UInt8) => Value.int .u8 b.toNat).toList := VL.of_forall fun v hv => by
        rw [Array.toList_map, List.mem_map] at hv; obtain ⟨b, _, rfl⟩ := hv; exact .same rfl
      have hts : (t.data.map fun (b : UInt8) => Value.int .u8 b.toNat).toList.length = t.size := by simp
      obtain ⟨ρ', g1, g2, g3⟩ := newRow_sound (l' := (t.data.map fun (b : UInt8) => Value.int .u8 b.toNat).toList) (rest := List.replicate ((Question.appendCap t.size 0 e).cut (w.tape w.drawn (.appendCap t.size 0 e)) - t.size) (Value.int .u8 0))
        (k := (Question.appendCap t.size 0 e).cut (w.tape w.drawn (.appendCap t.size 0 e))) h (hs.drew (w.drawn + 1)) hl hcap (by rw [hts]; simp; omega)
        (((t.data.map fun (b : UInt8) => Value.int .u8 b.toNat).toList ++ List.replicate ((Question.appendCap t.size 0 e).cut (w.tape w.drawn (.appendCap t.size 0 e)) - t.size) (Value.int .u8 0)).toArray.size, ((t.data.map fun (b : UInt8) => Value.int .u8 b.toNat).toList ++ List.replicate ((Question.appendCap t.size 0 e).cut (w.tape w.drawn (.appendCap t.size 0 e)) - t.size) (Value.int .u8 0)).toArray.size + 1) (.inr (Nat.le_refl _))
      have ew : ((t.data.map fun (b : UInt8) => Value.int .u8 b.toNat).toList ++ List.replicate ((Question.appendCap t.size 0 e).cut (w.tape w.drawn (.appendCap t.size 0 e)) - t.size) (Value.int .u8 0)).toArray =
          (t.data.map fun (b : UInt8) => Value.int .u8 b.toNat) ++ Array.replicate ((Question.appendCap t.size 0 e).cut (w.tape w.drawn (.appendCap t.size 0 e)) - t.size) (Value.int .u8 0) := by
        apply Array.ext'; simp
      rw [ew] at g2 g3
      refine ⟨_, _, ρ', ?_, g1, g2, (Tra.drew s ρ w (w.drawn + 1)).trans g3⟩
      simp only [convert, Sem.run_bind, run_underlying hus, run_underlying hud, run_underlying hue, Result.andThen_ok, Conv.stringToBytes, run_choose, Question.forced, Bool.false_eq_true, if_false, newRow, run_newObj, Sem.run_pure, World.alloc_eq, markStringish, run_shape]
      rw [← freeze_new]
      simp [World.shape?, World.alloc]
    · simp at h
  · rename_i e0 e b o g len cap hus hud
    split at h
    · cases h
    rename_i hga
    split at h
    · rename_i c t hue hb
      split at h
      · rename_i hc
        obtain ⟨rfl, hm, hl0⟩ := hc
        rw [hus] at hud; cases hud
        simp at h; obtain ⟨rfl, rfl⟩ := h
        obtain ⟨pc, t', f1, f2, f3⟩ := freeze_sound hs hb hm
        cases hx with
        | same hf => simp [flat0] at hf
        | slice hlt hcl hok =>
          have ea := hok.at (by omega)
          subst ea
          refine ⟨_, _, ρ, ?_, .slice hlt hcl hok, f2, f3⟩
          simp [convert, run_underlying hus, run_underlying hue, markStringish, f1]
        | abs _ hg _ => exact absurd hg hga
      · simp at h
    · simp at h
  · simp at h
theorem doBuildSlice_sound {P : Program} {s s' : St} {t : TypeId} {n : Nat} {parts : Array (Nat × Operand)} {v : Value} {ρ : Nat → PB} {w : World} {a : Act} (hz : ∀ t z, zeroOf P t = some z → Dflat z)
    (h : doBuildSlice P s t n parts.toList = some (v, s')) (hs : Hs s ρ w) (ht : VL (Dm s) ρ s.tmps a.tmps.toList) :
    ∃ v' w' ρ', (Instr.buildSlice t n (parts.map fun (i, x) => (i, a.eval x))).run P w = .ok v' w' ∧ VR (Dm s') ρ' v v' ∧ Hs s' ρ' w' ∧ Tra s s' ρ ρ' w w' := by
  unfold doBuildSlice at h
  split at h
  · rename_i elem hu
    split at h
    · rename_i i hi
      split at h
      · rename_i z hzz
        split at h
        · rename_i hc
          obtain ⟨hzl, hne, hbig⟩ := hc
          rw [bind_some] at h
          obtain ⟨vs, hvs, h⟩ := h
          rw [bind_some] at h
          obtain ⟨l, hl, h⟩ := h
          rw [bind_some] at h
          obtain ⟨⟨b, s1⟩, ha, h⟩ := h
          simp only [Option.some.injEq, Prod.mk.injEq] at h; obtain ⟨rfl, rfl⟩ := h
          have hzo : zeroOf P elem = some z := by simp [zeroOf, hi, hzz]
          have hzc : VL (Dm s) ρ z.cells.toList z.cells.toList := (VR.of_dflat (hz elem z hzo)).cells
          have hzs : z.cells.size = i.size := by simpa using hzl
          have hzne : z.cells.toList ≠ [] := by intro e; rw [e] at hzl; exact hne hzl.symm
          have hp := evParts_sound ht hvs
          have hpl : (parts.map fun (i, x) => (i, a.eval x)).toList = parts.toList.map fun (x : Nat × Operand) => (x.1, a.eval x.2) := by simp
          have hcells : VL (Dm s) ρ (zeroRow z.cells.toList n) ((Array.range (n * i.size)).map (z.cells[· % z.cells.size]!)).toList := by
            have e : ((Array.range (n * i.size)).map (z.cells[· % z.cells.size]!)).toList = zeroRow z.cells.toList n := by
              apply List.ext_getElem?
              intro j
              rw [Array.getElem?_toList, zeros_get _ _ (by omega), zeroRow_get _ hzne]
              simp only [Array.length_toList, hzs, Array.getElem?_toList]
            rw [e]
            refine VL.of_forall fun x hx => ?_
            obtain ⟨j, hj⟩ := List.mem_iff_getElem?.1 hx
            rw [zeroRow_get _ hzne] at hj
            split at hj
            · exact hzc.2 _ x x hj hj
            · simp at hj
          obtain ⟨r', e1, e2⟩ := fill_sound _ hl hcells hp
          obtain ⟨rfl, f1, f2⟩ := row_sound (pc := r') (t' := elem) (fr := (0, 0)) ha hs (.inl rfl) (fun j x hj => by obtain ⟨x', g1, g2⟩ := e2.get (by simpa [Cells.get] using hj); exact ⟨x', by simpa using g1, g2⟩)
          refine ⟨.slice (some ⟨w.heap.size, 0, none⟩) n n, _, _, ?_, .slice (St.alloc_dm ha hs.hid).1 (Nat.le_refl _) ⟨.inr (by rw [upd_at]), (fun _ => rfl), fun z e => by cases e⟩, f1, f2⟩
          have hs1 : tsize P elem = some i.size := by simp [tsize, hi]
          simp only [Instr.buildSlice, Sem.run_bind, run_underlying hu, Result.andThen_ok, run_sizeOf hs1]
          rw [if_neg (by omega)]
          by_cases hn0 : n * i.size = 0
          · have hem : ∀ f : Nat → Value, Array.map f (Array.range 0) = #[] := fun f => Array.eq_empty_of_size_eq_zero (by simp)
            rw [hn0, hem] at e1
            simp [hn0, hem, hpl, e1, newRow]
          · simp only [hn0, if_false, Sem.run_bind, run_zero hzo, Result.andThen_ok, Sem.run_pure, hpl, e1, newRow, run_newObj, World.alloc_eq]
        · simp at h
      · simp at h
    · simp at h
  · simp at h
end Go.Cln
