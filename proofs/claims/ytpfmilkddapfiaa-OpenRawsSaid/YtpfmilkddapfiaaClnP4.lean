/- A determinate reading of Go's code: stores, new blocks, addresses, slices. -/
import Derived.Test.YtpfmilkddapfiaaClnP3
namespace Go.Cln
set_option linter.unusedVariables false
set_option linter.unusedSimpArgs false
set_option linter.deprecated false
theorem storeAll_spec {s s' : St} {b o : Nat} {vs : List Value} (h : storeAll s b o vs = some s') : s'.next = s.next ∧ s'.roB = s.roB ∧ s'.ro = s.ro ∧ s'.tmps = s.tmps ∧ s'.defers = s.defers ∧ (s'.obl → s.obl) := by
  unfold storeAll at h
  split at h
  · split at h
    · rw [bind_some] at h
      obtain ⟨⟨c', s1⟩, hw, h⟩ := h
      obtain ⟨l, t1, t2, k⟩ := cells_write hw
      obtain ⟨e1, e2, e3, e4, e5, e6, e7, _⟩ := St.setOb_spec h
      exact ⟨e1.trans l.next, e2.trans l.roB, e3.trans l.ro, e6.trans t1, e7.trans t2, fun x => (k (e4 ▸ x)).1⟩
    · simp at h
  · simp at h
theorem storeAll_sound {P : Program} {s s' : St} {b o : Nat} {vs vs' : List Value} {ρ : Nat → PB} {w : World} (h : storeAll s b o vs = some s') (ho : s'.obl) (hs : Hs s ρ w) (hv : VL (Dm s) ρ vs vs') :
    ∃ w', (storeCells ⟨(ρ b).blk, (ρ b).off + o, none⟩ vs').run P w = .ok () w' ∧ Hs s' ρ w' ∧ Tra s s' ρ ρ w w' := by
  unfold storeAll at h
  split at h
  · rename_i hcond
    obtain ⟨hmay, hone⟩ := hcond
    split at h
    · rename_i c t hb
      rw [bind_some] at h
      obtain ⟨⟨c', s1⟩, hw, h⟩ := h
      obtain ⟨l, t1, t2, k⟩ := cells_write hw
      obtain ⟨_, _, _, e4, _⟩ := St.setOb_spec h
      obtain ⟨k1, k2, k3⟩ := k (e4 ▸ ho)
      obtain ⟨pc, t', fr, h1, h2, h3, h4, h5⟩ := hs.cells hb
      have hle : s.roB ≤ b := by simp [St.may] at hmay; exact hmay.1
      have hone' : vs'.all Value.oneCell' = true := by
        rw [List.all_eq_true] at hone ⊢
        intro x hx
        obtain ⟨i, hi⟩ := List.mem_iff_getElem?.1 hx
        have hlt : i < vs.length := by
          rcases Nat.lt_or_ge i vs'.length with h | h
          · rw [hv.1]; exact h
          · simp [List.getElem?_eq_none h] at hi
        have := hv.2 i vs[i] x (by simp [hlt]) hi
        rw [this.one]; exact hone _ (List.getElem_mem hlt)
      have hsz : vs' = [] ∨ (ρ b).off + o + 0 + vs'.length ≤ pc.size := by
        rcases Nat.eq_zero_or_pos vs.length with e | e
        · left; exact List.eq_nil_of_length_eq_zero (by rw [← hv.1]; exact e)
        · right
          obtain ⟨x, hx⟩ := k2 (vs.length - 1) (by omega)
          obtain ⟨x', hx', _⟩ := h5 _ _ hx
          rcases Nat.lt_or_ge ((ρ b).off + (o + (vs.length - 1))) pc.size with h | h
          · rw [← hv.1]; omega
          · simp [Array.getElem?_eq_none h] at hx'
      have hst : ∃ w' pc', (storeCells ⟨(ρ b).blk, (ρ b).off + o, none⟩ vs' 0).run P w = .ok () w' ∧ w'.heap[(ρ b).blk]? = some (.cells pc' t' fr) ∧ pc'.toList = setAll pc.toList ((ρ b).off + o + 0) vs' ∧ pc'.size = pc.size ∧
          w'.os = w.os ∧ w'.tape = w.tape ∧ w'.output = w.output ∧ w'.heap.size = w.heap.size ∧ ∀ k, k ≠ (ρ b).blk → w'.heap[k]? = w.heap[k]? := by
        rcases hsz with e | e
        · subst e; exact ⟨w, pc, rfl, h1, rfl, rfl, rfl, rfl, rfl, rfl, fun _ _ => rfl⟩
        · exact run_stores P _ _ t' fr vs' 0 pc w h1 e (h3 hle) hone'
      obtain ⟨w', pc', f1, f2, f3, f4, f5, f6, f7, f8, f9⟩ := hst
      have hs1 := l.holds hs
      have hr := set_sound (o0 := .cells c t) h hs1 (by rw [l.heap]; exact hb) (by rw [may_of l.roB l.ro]; exact hmay) f5 f6 f7 f8 f9 ⟨pc', t', fr, f2, f4.trans h2, fun _ => by rw [f4]; exact h3 hle, fun i v hi => by
        rw [k3] at hi
        have hget : pc'[(ρ b).off + i]? = (setAll pc.toList ((ρ b).off + o + 0) vs')[(ρ b).off + i]? := by rw [← f3]; simp
        rw [hget]
        rcases hsz with e | e
        · subst e
          have e0 : vs = [] := List.eq_nil_of_length_eq_zero (by rw [hv.1]; rfl)
          subst e0
          rw [if_neg (by simp only [List.length_nil]; omega)] at hi
          obtain ⟨v', g1, g2⟩ := h5 i v hi
          exact ⟨v', by simpa [setAll] using g1, by rw [l.dm]; exact g2⟩
        · rw [setAll_get _ _ _ _ (by simpa using e)]
          by_cases hc : o ≤ i ∧ i < o + vs.length
          · rw [if_pos hc] at hi
            obtain ⟨v', g1, g2⟩ := hv.get hi
            refine ⟨v', ?_, by rw [l.dm]; exact g2⟩
            rw [if_pos (by rw [← hv.1]; omega)]
            rw [← g1]; congr 1; omega
          · rw [if_neg hc] at hi
            obtain ⟨v', g1, g2⟩ := h5 i v hi
            refine ⟨v', ?_, by rw [l.dm]; exact g2⟩
            rw [if_neg (by rw [← hv.1]; omega)]; simpa using g1⟩
      exact ⟨w', f1, hr.1, l.thenTra hr.2⟩
    · simp at h
  · simp at h
theorem doStore_sound {P : Program} {s s' : St} {t : TypeId} {a a' v v' u : Value} {ρ : Nat → PB} {w : World} (h : doStore P s t a v = some (u, s')) (ho : s'.obl) (hs : Hs s ρ w) (ha : VR (Dm s) ρ a a') (hv : VR (Dm s) ρ v v') :
    u = undef ∧ ∃ w', (Instr.storeAt t a' v').run P w = .ok () w' ∧ Hs s' ρ w' ∧ Tra s s' ρ ρ w w' := by
  unfold doStore at h
  split at h
  · rename_i b o
    split at h
    · rename_i hsz
      rw [bind_some] at h
      obtain ⟨s1, h1, h⟩ := h
      simp at h; obtain ⟨rfl, rfl⟩ := h
      cases ha with
      | same hf => simp [flat0] at hf
      | ptr hlt =>
        obtain ⟨w', e1, e2, e3⟩ := storeAll_sound (P := P) h1 ho hs hv.cells
        refine ⟨rfl, w', ?_, e2, e3⟩
        have hlen : v'.cells.size = v.cells.toList.length := by have := hv.cells.1; simp at this ⊢; exact this.symm
        simp only [Instr.storeAt, Instr.sureAddr, Sem.run_bind, Sem.run_pure, Result.andThen_ok, storeVar, run_sizeOf hsz.symm, hlen, ne_eq, not_true_eq_false, if_false]
        exact e1
    · simp at h
  · simp at h
theorem doStore_spec {P : Program} {s s' : St} {t : TypeId} {a v u : Value} (h : doStore P s t a v = some (u, s')) : s'.tmps = s.tmps ∧ s'.defers = s.defers ∧ (s'.obl → s.obl) := by
  unfold doStore at h
  split at h
  · split at h
    · rw [bind_some] at h
      obtain ⟨s1, h1, h⟩ := h
      simp at h; obtain ⟨rfl, rfl⟩ := h
      obtain ⟨_, _, _, a, b, c⟩ := storeAll_spec h1
      exact ⟨a, b, c⟩
    · simp at h
  · simp at h
theorem row_sound {s s' : St} {b : Nat} {c : Cells} {t t' : TypeId} {pc : Array Value} {fr : Nat × Nat} {ρ : Nat → PB} {w : World} (h : s.alloc (.cells c t) = some (b, s')) (hs : Hs s ρ w)
    (hf : FrOk fr pc.size) (hc : ∀ (i : Nat) (v : Value), c.get i = some v → ∃ v', pc[i]? = some v' ∧ VR (Dm s) ρ v v') :
    b = s.next ∧ Hs s' (upd ρ s.next ⟨w.heap.size, 0, pc.size⟩) (w.alloc (.cells pc t' fr)) ∧ Tra s s' ρ (upd ρ s.next ⟨w.heap.size, 0, pc.size⟩) w (w.alloc (.cells pc t' fr)) := by
  have hr := alloc_sound (o' := .cells pc t' fr) ⟨w.heap.size, 0, pc.size⟩ h hs rfl ⟨pc, t', fr, heap_alloc_new _ _, rfl, fun _ => hf, fun i v hi => by
    obtain ⟨v', h1, h2⟩ := hc i v hi
    exact ⟨v', by simpa using h1, h2.mono (St.alloc_dm h hs.hid).2 fun b hb => upd_lt ρ _ hb.1⟩⟩
  exact ⟨(St.alloc_next h).1, hr⟩
theorem newCells_sound {s s' : St} {t t' : TypeId} {l l' : List Value} {v : Value} {ρ : Nat → PB} {w : World} (h : newCells s t l = some (v, s')) (hs : Hs s ρ w) (hl : VL (Dm s) ρ l l') :
    ∃ ρ', VR (Dm s') ρ' v (.pointer (some ⟨w.heap.size, 0, none⟩)) ∧ Hs s' ρ' (w.alloc (.cells l'.toArray t')) ∧ Tra s s' ρ ρ' w (w.alloc (.cells l'.toArray t')) := by
  unfold newCells at h
  rw [bind_some] at h
  obtain ⟨⟨b, s1⟩, ha, h⟩ := h
  simp at h; obtain ⟨rfl, rfl⟩ := h
  obtain ⟨rfl, e1, e2⟩ := row_sound (pc := l'.toArray) (t' := t') (fr := (0, 0)) ha hs (.inl rfl) (fun i v hi => by obtain ⟨v', a, b⟩ := hl.get (compact_get hi); exact ⟨v', by simpa using a, b⟩)
  refine ⟨_, ?_, e1, e2⟩
  have := VR.ptr (N := Dm s1) (ρ := upd ρ s.next ⟨w.heap.size, 0, l'.toArray.size⟩) (b := s.next) (o := 0) (St.alloc_dm ha hs.hid).1
  rw [upd_at] at this; exact this
theorem newCells_spec {s s' : St} {t : TypeId} {l : List Value} {v : Value} (h : newCells s t l = some (v, s')) : s'.tmps = s.tmps ∧ s'.defers = s.defers ∧ (s'.obl → s.obl) := by
  unfold newCells at h
  rw [bind_some] at h
  obtain ⟨⟨b, s1⟩, ha, h⟩ := h
  simp at h; obtain ⟨rfl, rfl⟩ := h
  obtain ⟨_, _, _, _, e, _, a, b, _⟩ := St.alloc_next ha
  exact ⟨a, b, fun x => e ▸ x⟩
theorem doFieldAddr_sound {P : Program} {s s' : St} {t : TypeId} {x x' v : Value} {f : Nat} {N : Nat → Prop} {ρ : Nat → PB} (h : doFieldAddr P s t x f = some (v, s')) (hx : VR N ρ x x') :
    s' = s ∧ ∃ v', (∀ w, (Instr.fieldAt t x' f).run P w = .ok v' w) ∧ VR N ρ v v' := by
  unfold doFieldAddr at h
  split at h
  · rename_i fs b o hu
    split at h
    · rename_i fd hf
      split at h
      · rename_i n hn
        simp at h; obtain ⟨rfl, rfl⟩ := h
        cases hx with
        | same hf => simp [flat0] at hf
        | ptr hlt =>
          refine ⟨rfl, .pointer (some ⟨(ρ b).blk, (ρ b).off + (o + fd.offset), none⟩), fun w => ?_, .ptr hlt⟩
          simp only [Instr.fieldAt, Sem.run_bind, run_underlying hu, Result.andThen_ok, hf, Instr.sureAddr, Sem.run_pure, fieldPlace, run_sizeOf hn]
          simp [add_none, Nat.add_assoc]
      · simp at h
    · simp at h
  · rename_i fs b o g hu
    split at h
    · rename_i fd hf
      split at h
      · rename_i n hn
        split at h
        · rename_i hg
          simp only [Option.some.injEq, Prod.mk.injEq] at h; obtain ⟨rfl, rfl⟩ := h
          cases hx with
          | same hf => simp [flat0] at hf
          | absP z0 hg =>
            refine ⟨rfl, .pointer (some ⟨blkOf b, baseOf b + (o + fd.offset), none⟩), fun w => ?_, .absP z0 hg⟩
            simp only [Instr.fieldAt, Sem.run_bind, run_underlying hu, Result.andThen_ok, hf, Instr.sureAddr, Sem.run_pure, fieldPlace, run_sizeOf hn]
            simp [add_none, Nat.add_assoc]
        · cases h
      · cases h
    · cases h
  · simp at h
theorem doIndexAddr_sound {P : Program} {s s' : St} {t : TypeId} {x x' ix v : Value} {N : Nat → Prop} {ρ : Nat → PB} (h : doIndexAddr P s t x ix = some (v, s')) (hx : VR N ρ x x') :
    Like s s' ∧ s'.tmps = s.tmps ∧ s'.defers = s.defers ∧ (s'.obl → s.obl ∧ ∃ v', (∀ w, (Instr.indexAt t x' ix).run P w = .ok v' w) ∧ VR N ρ v v') := by
  unfold doIndexAddr at h
  split at h
  · simp at h
  · rename_i i hi
    obtain ⟨k, rfl⟩ := intVal_some hi
    split at h
    · rename_i len elem b o hu
      split at h
      · rename_i n hn
        rw [bind_some] at h
        obtain ⟨s1, h1, h⟩ := h
        simp at h; obtain ⟨rfl, rfl⟩ := h
        obtain ⟨a1, a2, a3, a4⟩ := St.need_spec h1
        refine ⟨a1, a2, a3, fun hob => ⟨(a4 hob).1, ?_⟩⟩
        obtain ⟨hb1, hb2⟩ := (a4 hob).2
        cases hx with
        | same hf => simp [flat0] at hf
        | ptr hlt =>
          refine ⟨.pointer (some ⟨(ρ b).blk, (ρ b).off + (o + i.toNat * n), none⟩), fun w => ?_, .ptr hlt⟩
          simp only [Instr.indexAt, asIntOf, Sem.run_bind, Sem.run_pure, Result.andThen_ok, run_underlying hu, Instr.sureAddr]
          simp [hb1, hb2, run_sizeOf hn, add_none, Nat.add_assoc]
      · simp at h
    · rename_i elem b o g len cap hu
      split at h
      · rename_i n hn
        rw [bind_some] at h
        obtain ⟨s1, h1, h⟩ := h
        simp at h; obtain ⟨rfl, rfl⟩ := h
        obtain ⟨a1, a2, a3, a4⟩ := St.need_spec h1
        refine ⟨a1, a2, a3, fun hob => ⟨(a4 hob).1, ?_⟩⟩
        obtain ⟨hb1, hb2⟩ := (a4 hob).2
        cases hx with
        | same hf => simp [flat0] at hf
        | slice hlt hle hok =>
          rename_i c' a'
          have hc' : a' = ⟨(ρ b).blk, (ρ b).off + o, none⟩ := by
            rcases hok.1 with e | e
            · exfalso
              cases g with
              | none => have := hok.2.1 rfl; omega
              | some z => have := (hok.2.2 z rfl).1; omega
            · exact e
          subst hc'
          have hna : isAbs g = false := by
            cases g with
            | none => rfl
            | some z =>
              have := (hok.2.2 z rfl).2.2
              unfold isAbs
              rw [Bool.eq_false_iff]; intro e; have := Nat.le_of_ble_eq_true e; omega
          rw [if_neg (by rw [hna]; exact Bool.false_ne_true)]
          refine ⟨.pointer (some ⟨(ρ b).blk, (ρ b).off + (o + i.toNat * n), none⟩), fun w => ?_, .ptr hlt⟩
          simp only [Instr.indexAt, asIntOf, Sem.run_bind, Sem.run_pure, Result.andThen_ok, run_underlying hu]
          simp [hb1, hb2, run_sizeOf hn, add_none, Nat.add_assoc]
        | abs z0 hg hk =>
          obtain ⟨hle, rfl | ⟨rfl, _⟩⟩ := hk
          · rw [if_pos hg]
            refine ⟨.pointer (some ⟨blkOf b, baseOf b + (o + i.toNat * n), none⟩), fun w => ?_, .absP z0 hg⟩
            simp only [Instr.indexAt, asIntOf, Sem.run_bind, Sem.run_pure, Result.andThen_ok, run_underlying hu]
            simp [hb1, hb2, run_sizeOf hn, add_none, Nat.add_assoc]
          · omega
      · simp at h
    · simp at h
end Go.Cln
