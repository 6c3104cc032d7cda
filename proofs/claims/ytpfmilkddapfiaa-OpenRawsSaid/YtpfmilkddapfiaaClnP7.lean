/- A determinate reading of Go's code: what is appended, copied, counted. -/
import Derived.Test.YtpfmilkddapfiaaClnP6
namespace Go.Cln
set_option linter.unusedVariables false
set_option linter.unusedSimpArgs false
set_option linter.deprecated false
theorem run_lenOf {P : Program} {N : Nat → Prop} {ρ : Nat → PB} {x x' : Value} {n : Nat} (h : lenV x = some n) (hx : VR N ρ x x') (w : World) : (Builtin.lenOf x').run P w = .ok n w := by
  cases hx with
  | same hf => cases x <;> simp [lenV] at h <;> subst h <;> rfl
  | slice _ _ _ => simp [lenV] at h; subst h; rfl
  | ptr _ => simp [lenV] at h
  | fn _ _ _ _ => simp [lenV] at h
  | yield _ => simp [lenV] at h
  | mapv _ => simp [lenV] at h
  | any _ => simp [lenV] at h
  | abs _ _ k =>
    simp [lenV] at h; subst h
    obtain ⟨k, rfl | ⟨rfl, a, c', rfl⟩⟩ := k
    · rfl
    · obtain rfl := Nat.le_zero.1 k; rfl
  | absP _ _ => simp [lenV] at h
  | agg _ _ => simp [lenV] at h
  | tup _ _ => simp [lenV] at h
theorem SliceOk.le {p : PB} {o c c' : Nat} {g : Option Nat} {a' : Addr} (h : SliceOk p o g c a' c') : c ≤ c' := by
  cases g with
  | none => have := h.2.1 rfl; omega
  | some z => exact (h.2.2 z rfl).1
theorem SliceOk.at {p : PB} {o c c' : Nat} {g : Option Nat} {a' : Addr} (h : SliceOk p o g c a' c') (hc : c ≠ 0) : a' = ⟨p.blk, p.off + o, none⟩ := by
  have := h.le
  rcases h.1 with e | e
  · omega
  · exact e
theorem srcCells_like {s s' : St} {size n : Nat} {x : Value} {l : List Value} (h : srcCells s size n x = some (l, s')) : Like s s' ∧ s'.tmps = s.tmps ∧ s'.defers = s.defers ∧ (s'.obl → s.obl) := by
  unfold srcCells at h
  split at h
  · split at h
    · simp at h; obtain ⟨_, rfl⟩ := h; exact ⟨Like.refl _, rfl, rfl, id⟩
    · split at h
      · rw [bind_some] at h
        obtain ⟨c0, hm, h⟩ := h
        obtain ⟨a, b, c, _, d⟩ := cells_readN h; exact ⟨a, b, c, fun k => (d k).1⟩
      · split at h
        · obtain ⟨a, b, c, _, d⟩ := cells_readN h; exact ⟨a, b, c, fun k => (d k).1⟩
        · simp at h
  · split at h <;> simp at h; obtain ⟨_, rfl⟩ := h; exact ⟨Like.refl _, rfl, rfl, id⟩
  · simp at h; obtain ⟨_, rfl⟩ := h; exact ⟨Like.refl _, rfl, rfl, id⟩
  · simp at h
theorem srcCells_sound {P : Program} {s s' : St} {size n m : Nat} {x x' : Value} {l : List Value} {ρ : Nat → PB} {w : World} (h : srcCells s size n x = some (l, s')) (ho : s'.obl) (hs : Hs s ρ w) (hx : VR (Dm s) ρ x x')
    (hm : lenV x = some m) (hn : n ≤ m) : ∃ l', (∀ w2 : World, w2.heap = w.heap → (Builtin.firstCells size n x').run P w2 = .ok l'.toArray w2) ∧ VL (Dm s) ρ l l' := by
  unfold srcCells at h
  split at h
  · rename_i b o g len cap
    simp [lenV] at hm; subst hm
    split at h
    · rename_i hn0
      simp at h; obtain ⟨rfl, rfl⟩ := h
      subst hn0
      cases hx with
      | same hf => simp [flat0] at hf
      | slice _ _ _ => exact ⟨[], fun w2 _ => by simp [Builtin.firstCells, loadCells, loadCellsFrom], VL.nil⟩
      | abs _ _ k =>
        obtain ⟨_, rfl | ⟨rfl, a, c', rfl⟩⟩ := k
        · exact ⟨[], fun w2 _ => by simp [Builtin.firstCells, loadCells, loadCellsFrom], VL.nil⟩
        · cases a with
          | none => exact ⟨[], fun w2 _ => rfl, VL.nil⟩
          | some a => exact ⟨[], fun w2 _ => by simp [Builtin.firstCells, loadCells, loadCellsFrom], VL.nil⟩
    · rename_i hn0
      by_cases hgg : isAbs g = true
      · rw [if_pos hgg, bind_some] at h
        obtain ⟨c0, hmm, h⟩ := h
        obtain ⟨_, _, _, hl, hgt⟩ := cells_readN h
        obtain ⟨l', hv, hrun⟩ := hs.absPart (P := P) hmm hl (hgt ho).2
        cases hx with
        | same hf => simp [flat0] at hf
        | slice hlt hcl hok =>
          exfalso
          cases g with
          | none => cases hgg
          | some z => have := (hok.2.2 z rfl).2.2; have := Nat.le_of_ble_eq_true hgg; omega
        | abs _ _ k =>
          obtain ⟨hcl, rfl | ⟨rfl, _⟩⟩ := k
          · refine ⟨l', fun w2 hw2 => ?_, hv⟩
            simp only [Builtin.firstCells]
            exact hrun w2 hw2
          · omega
      rw [if_neg hgg] at h
      split at h
      · rename_i c t hb
        obtain ⟨_, _, _, hl, hg⟩ := cells_readN h
        obtain ⟨pc, t', fr, h1, h2, _, h4, h5⟩ := hs.cells hb
        obtain ⟨hle, hv⟩ := part_cells h5 hl (hg ho).2
        cases hx with
        | same hf => simp [flat0] at hf
        | slice hlt hcl hok =>
          have e := hok.at (by omega)
          refine ⟨(pc.toList.drop ((ρ b).off + o)).take (n * size), fun w2 hw2 => ?_, hv⟩
          rw [e]
          simp only [Builtin.firstCells]
          rcases hle with e0 | hle
          · rw [e0]; simp [loadCells, loadCellsFrom]
          · exact run_loads P _ _ _ (by rw [hw2]; exact h1) hle
        | abs _ hg' _ => exact absurd hg' hgg
      · simp at h
  · split at h
    · rename_i hn0
      simp at h; obtain ⟨rfl, rfl⟩ := h
      cases hx with
      | same hf => exact ⟨[], fun w2 _ => by simp [Builtin.firstCells], VL.nil⟩
    · simp at h
  · rename_i t
    simp only [Option.some.injEq, Prod.mk.injEq] at h; obtain ⟨rfl, rfl⟩ := h
    cases hx with
    | same hf => exact ⟨((t.extract 0 n).data.map fun b => Value.int .u8 b.toNat).toList, fun w2 _ => by simp only [Builtin.firstCells, Sem.run_pure, Array.toArray_toList], VL.of_forall fun v hv => by
        rw [Array.toList_map, List.mem_map] at hv
        obtain ⟨b, _, rfl⟩ := hv
        exact .same rfl⟩
  · simp at h
theorem srcCells_length {s s' : St} {size n : Nat} {x : Value} {l : List Value} (h : srcCells s size n x = some (l, s')) (hm : lenV x = some n) (hsz : ∀ t, x = .string t → size = 1) : l.length = n * size := by
  unfold srcCells at h
  split at h
  · split at h
    · rename_i e; simp at h; subst e; simp [← h.1]
    · split at h
      · rw [bind_some] at h
        obtain ⟨m, _, h⟩ := h
        obtain ⟨_, _, _, hl, _⟩ := cells_readN h; exact hl
      · split at h
        · obtain ⟨_, _, _, hl, _⟩ := cells_readN h; exact hl
        · simp at h
  · split at h
    · rename_i e; simp at h; subst e; simp [← h.1]
    · simp at h
  · rename_i t
    simp only [Option.some.injEq, Prod.mk.injEq] at h
    rw [← h.1, hsz t rfl]
    simp [lenV] at hm
    simp [hm]
  · simp at h
theorem growBy_le (n : Nat) : ∀ (r c : Nat), Builtin.growBy n r c ≤ max c (n + (n + 768) / 4)
  | 0, c => by simp [Builtin.growBy]; omega
  | r + 1, c => by
    simp only [Builtin.growBy]
    split
    · omega
    · have := growBy_le n r (c + (c + 768) / 4); omega
theorem nextcap_le {need cap : Nat} (h : cap < need) : Builtin.nextslicecap need cap ≤ 3 * need := by
  unfold Builtin.nextslicecap
  split
  · omega
  · split
    · omega
    · have := growBy_le need 4 cap; omega
theorem zeroCells_size (z : Array Value) (n : Nat) : (Builtin.zeroCells z n).size = n * z.size := by simp [Builtin.zeroCells]
theorem run_append_new {P : Program} {st xt ty elem : TypeId} {i : TypeInfo} {z : Value} {xd : TypeDesc} {base : Option Addr} {sLen sCap n : Nat} {x' : Value} {olds news : Array Value} {w : World}
    (hst : P.underlying st = some (.slice elem)) (hi : P.info? elem = some i) (hz : i.zero = some z) (hxt : P.underlying xt = some xd) (hxd : ∀ k, xd ≠ .int k)
    (hlen : ∀ w, (Builtin.lenOf x').run P w = .ok n w) (hcap : sCap < sLen + n) (hb1 : (sLen + n) * i.bytes ≤ mostBytes) (hb2 : sLen + n ≤ mostBytes)
    (hold : ∀ w2 : World, w2.heap = w.heap → (Builtin.firstCells i.size sLen (.slice base sLen sCap)).run P w2 = .ok olds w2)
    (hnew : ∀ w2 : World, w2.heap = w.heap → (Builtin.firstCells i.size n x').run P w2 = .ok news w2) (argTypes : Array TypeId) (h0 : argTypes[0]? = some st) (h1 : argTypes[1]? = some xt) :
    ∃ k, sLen + n ≤ k ∧ (Builtin.append_ argTypes ty #[.slice base sLen sCap, x']).run P w = .ok (.slice (some ⟨w.heap.size, 0, none⟩) (sLen + n) k) (({ w with drawn := w.drawn + 1 } : World).alloc (.cells (olds ++ news ++ Builtin.zeroCells z.cells (k - (sLen + n))) elem)) := by
  refine ⟨(Question.appendCap (sLen + n) sCap elem).cut (w.tape w.drawn (.appendCap (sLen + n) sCap elem)), by simp [Question.cut], ?_⟩
  have hcond : ¬ (sLen + n ≤ sCap) := by omega
  have hk := nextcap_le hcap
  have hfit : ¬ (Builtin.nextslicecap (sLen + n) sCap * i.bytes > 2 ^ 48) := by
    have h2 : Builtin.nextslicecap (sLen + n) sCap * i.bytes ≤ 3 * (sLen + n) * i.bytes := Nat.mul_le_mul_right _ hk
    have h3 : 3 * (sLen + n) * i.bytes = 3 * ((sLen + n) * i.bytes) := by rw [Nat.mul_assoc]
    unfold mostBytes at hb1; omega
  have hmax : ¬ (((sLen + n : Nat) : Int) > IntKind.i64.max) := by
    have : IntKind.i64.max = 9223372036854775807 := by decide
    rw [this]; unfold mostBytes at hb2; omega
  simp only [Builtin.append_, h0, h1, List.getElem?_toArray, List.getElem?_cons_zero, List.getElem?_cons_succ, Sem.run_bind, run_underlying hst, Result.andThen_ok, run_sizeOf (by simp [tsize, hi] : tsize P elem = some i.size), run_underlying hxt]
  cases xd <;> first
    | exact absurd rfl (hxd _)
    | (simp only [Bool.false_eq_true, if_false, hlen, Result.andThen_ok, hcond, Bool.not_false, if_true, false_or, Sem.run_bind, run_typeInfo hi, hmax, hfit, false_and, Sem.run_pure, run_choose, Question.forced, run_askRoom]
       simp only [hold ({ w with drawn := w.drawn + 1 } : World) rfl, hnew ({ w with drawn := w.drawn + 1 } : World) rfl, Result.andThen_ok, run_zero (by simp [zeroOf, hi, hz] : zeroOf P elem = some z), newRow, Sem.run_bind, run_newObj, Sem.run_pure, World.alloc_eq])
theorem newRowOf_spec {s s' : St} {elem : TypeId} {size n : Nat} {l : List Value} {v : Value} (h : newRowOf s elem size l n = some (v, s')) :
    ∃ b, s.alloc (.cells (.lit l) elem) = some (b, s') ∧ v = .slice (some ⟨b, 0, some size⟩) n n := by
  unfold newRowOf at h
  split at h
  · cases h
  rw [bind_some] at h
  obtain ⟨⟨b, s1⟩, ha, h⟩ := h
  simp only [Option.some.injEq, Prod.mk.injEq] at h; obtain ⟨rfl, rfl⟩ := h
  exact ⟨b, ha, rfl⟩
theorem newRowOf_size {s s' : St} {elem : TypeId} {size n : Nat} {l : List Value} {v : Value} (h : newRowOf s elem size l n = some (v, s')) : size < 1000 := by
  unfold newRowOf at h
  split at h
  · cases h
  · rename_i hb
    rcases Nat.lt_or_ge size 1000 with h1 | h1
    · exact h1
    · exact absurd (Nat.ble_eq_true_of_le h1) hb
theorem newRow_sound {s s' : St} {elem : TypeId} {size n k : Nat} {l l' rest : List Value} {v : Value} {ρ : Nat → PB} {w : World} (h : newRowOf s elem size l n = some (v, s')) (hs : Hs s ρ w) (hl : VL (Dm s) ρ l l')
    (hk : n ≤ k) (hsz : l'.length + rest.length = k * size) (fr : Nat × Nat := (0, 0)) (hfr : FrOk fr (l' ++ rest).toArray.size := by exact .inl rfl) :
    ∃ ρ', VR (Dm s') ρ' v (.slice (some ⟨w.heap.size, 0, none⟩) n k) ∧ Hs s' ρ' (w.alloc (.cells (l' ++ rest).toArray elem fr)) ∧ Tra s s' ρ ρ' w (w.alloc (.cells (l' ++ rest).toArray elem fr)) := by
  have hs1000 := newRowOf_size h
  obtain ⟨b, ha, rfl⟩ := newRowOf_spec h
  obtain ⟨rfl, e1, e2⟩ := row_sound (pc := (l' ++ rest).toArray) (t' := elem) (fr := fr) ha hs hfr (fun i v hi => by
    obtain ⟨v', a, b⟩ := hl.get (by simpa [Cells.get] using hi)
    refine ⟨v', ?_, b⟩
    have hlt : i < l'.length := by
      rcases Nat.lt_or_ge i l'.length with h | h
      · exact h
      · simp [List.getElem?_eq_none h] at a
    simp only [List.getElem?_toArray]
    rw [List.getElem?_append_left hlt]; exact a)
  refine ⟨_, .slice (St.alloc_dm ha hs.hid).1 (Nat.le_refl _) ⟨.inr (by rw [upd_at]), (fun e => by cases e), fun z e => ?_⟩, e1, e2⟩
  cases e
  rw [upd_at]
  exact ⟨hk, .inr (by simp [hsz]), hs1000⟩
theorem storeAll_dm {s s' : St} {b o : Nat} {vs : List Value} (h : storeAll s b o vs = some s') : Dm s' = Dm s := by
  unfold storeAll at h
  split at h
  · split at h
    · rw [bind_some] at h
      obtain ⟨⟨c', s1⟩, hw, h⟩ := h
      rw [St.setOb_dm h, (cells_write hw).1.dm]
    · simp at h
  · simp at h
theorem appendIn_sound {P : Program} {s s' : St} {argTypes : Array TypeId} {ty st xt elem : TypeId} {i : TypeInfo} {xd : TypeDesc} {sLen sCap n : Nat} {base : Option Addr} {x x' b' v : Value} {ρ : Nat → PB} {w : World}
    (h : appendIn s i.size sLen sCap n base x = some (v, s')) (ho : s'.obl) (hs : Hs s ρ w) (hb : VR (Dm s) ρ (.slice base sLen sCap) b') (hx : VR (Dm s) ρ x x')
    (hab : absB base = false) (hst : P.underlying st = some (.slice elem)) (hi : P.info? elem = some i) (hxt : P.underlying xt = some xd) (hxd : ∀ k, xd ≠ .int k) (hm : lenV x = some n) (hroom : sLen + n ≤ sCap)
    (h0 : argTypes[0]? = some st) (h1 : argTypes[1]? = some xt) :
    ∃ v' w', (Builtin.append_ argTypes ty #[b', x']).run P w = .ok v' w' ∧ VR (Dm s') ρ v v' ∧ Hs s' ρ w' ∧ Tra s s' ρ ρ w w' := by
  unfold appendIn at h
  rw [bind_some] at h
  obtain ⟨⟨l, s1⟩, hr, h⟩ := h
  obtain ⟨k1, k2, k3, k4⟩ := srcCells_like hr
  have main : ∀ (base' : Option Addr) (sCap' : Nat) (new : Array Value) (w' : World), sLen + n ≤ sCap' →
      (Builtin.firstCells i.size n x').run P w = .ok new w → (match base' with | some a => storeCells (a.add (sLen * i.size)) new.toList | none => pure ()).run P w = .ok () w' →
      (Builtin.append_ argTypes ty #[.slice base' sLen sCap', x']).run P w = .ok (.slice base' (sLen + n) sCap') w' := by
    intro base' sCap' new w' e1 e2 e3
    simp only [Builtin.append_, h0, h1, List.getElem?_toArray, List.getElem?_cons_zero, List.getElem?_cons_succ, Sem.run_bind, run_underlying hst, Result.andThen_ok, run_sizeOf (by simp [tsize, hi] : tsize P elem = some i.size), run_underlying hxt]
    cases xd <;> first
      | exact absurd rfl (hxd _)
      | (simp only [Bool.false_eq_true, if_false, run_lenOf hm hx w, Result.andThen_ok, e1, Bool.not_false, if_true, Sem.run_bind, e2, Sem.run_pure]
         cases base' with
         | none => simp only [Sem.run_pure, Result.ok.injEq] at e3; simp [e3]
         | some a => simp only [e3, Sem.run_bind, Result.andThen_ok, Sem.run_pure])
  split at h
  · simp only [Option.some.injEq, Prod.mk.injEq] at h; obtain ⟨rfl, rfl⟩ := h
    obtain ⟨l', e1, e2⟩ := srcCells_sound (P := P) hr ho hs hx hm (Nat.le_refl _)
    cases hb with
    | same hf =>
      refine ⟨_, w, main none sCap l'.toArray w hroom (e1 w rfl) rfl, .same rfl, k1.holds hs, k1.tra _ _⟩
  · rename_i b o g
    split at h
    · rename_i hemp
      simp only [Option.some.injEq, Prod.mk.injEq] at h; obtain ⟨rfl, rfl⟩ := h
      obtain ⟨l', e1, e2⟩ := srcCells_sound (P := P) hr ho hs hx hm (Nat.le_refl _)
      have hl0 : l = [] := by simpa using hemp
      subst hl0
      have := e2.inv_nil; subst this
      cases hb with
      | same hf => simp [flat0] at hf
      | slice hlt hle hok =>
        have := hok.le
        refine ⟨_, w, main _ _ #[] w (by omega) (e1 w rfl) rfl, .slice (by rw [k1.dm]; exact hlt) hroom hok, k1.holds hs, k1.tra _ _⟩
      | abs _ hg' _ => exact absurd (hg'.symm.trans hab) (by decide)
    · rename_i hemp
      split at h
      · rename_i hg
        rw [bind_some] at h
        obtain ⟨s2, h2, h⟩ := h
        simp only [Option.some.injEq, Prod.mk.injEq] at h; obtain ⟨rfl, rfl⟩ := h
        obtain ⟨q1, q2, q3, q4, q5, q6⟩ := storeAll_spec h2
        obtain ⟨l', e1, e2⟩ := srcCells_sound (P := P) hr (q6 ho) hs hx hm (Nat.le_refl _)
        have qd := storeAll_dm h2
        obtain ⟨w', f1, f2, f3⟩ := storeAll_sound (P := P) h2 ho (k1.holds hs) (by rw [k1.dm]; exact e2)
        cases hb with
        | same hf => simp [flat0] at hf
        | slice hlt hle hok =>
          have hcl := hok.le
          have hn0 : n ≠ 0 := by
            intro e; subst e
            apply hemp
            unfold srcCells at hr
            split at hr
            · simp at hr; simp [hr.1]
            · simp at hr; simp [hr.1]
            · simp only [Option.some.injEq, Prod.mk.injEq] at hr; rw [← hr.1]; simp [lenV] at hm; simp [hm]
            · simp at hr
          have ea := hok.at (by omega)
          subst ea
          refine ⟨_, w', main _ _ l'.toArray w' (by omega) (e1 w rfl) (by simp only [add_none]; rw [Nat.add_assoc]; exact f1), .slice (by rw [qd, k1.dm]; exact hlt) hroom hok, f2, k1.thenTra f3⟩
        | abs _ hg' _ => exact absurd (hg'.symm.trans hab) (by decide)
      · simp at h
set_option maxHeartbeats 1000000 in
theorem appendNew_sound {P : Program} {s s' : St} {argTypes : Array TypeId} {ty st xt elem : TypeId} {i : TypeInfo} {z : Value} {xd : TypeDesc} {sLen sCap n : Nat} {base : Option Addr} {x x' b' v : Value} {ρ : Nat → PB} {w : World}
    (h : appendNew s elem i.size sLen sCap n base x = some (v, s')) (ho : s'.obl) (hs : Hs s ρ w) (hb : VR (Dm s) ρ (.slice base sLen sCap) b') (hx : VR (Dm s) ρ x x')
    (hab : absB base = false) (hst : P.underlying st = some (.slice elem)) (hi : P.info? elem = some i) (hz : i.zero = some z) (hzl : z.cells.toList.length = i.size) (hne : i.size ≠ 0) (hxt : P.underlying xt = some xd) (hxd : ∀ k, xd ≠ .int k) (hm : lenV x = some n) (hroom : sCap < sLen + n)
    (hb1 : (sLen + n) * i.bytes ≤ mostBytes) (hb2 : sLen + n ≤ mostBytes) (h0 : argTypes[0]? = some st) (h1 : argTypes[1]? = some xt) (hstr : ∀ t, x = .string t → i.size = 1) :
    ∃ v' w' ρ', (Builtin.append_ argTypes ty #[b', x']).run P w = .ok v' w' ∧ VR (Dm s') ρ' v v' ∧ Hs s' ρ' w' ∧ Tra s s' ρ ρ' w w' := by
  have hzs : z.cells.size = i.size := by simpa using hzl
  unfold appendNew at h
  rw [bind_some] at h
  obtain ⟨⟨l, s1⟩, hr, h⟩ := h
  obtain ⟨k1, k2, k3, k4⟩ := srcCells_like hr
  split at h
  · split at h
    · rename_i hc
      obtain ⟨rfl, rfl⟩ := hc
      have hob : s1.obl := by
        obtain ⟨b, ha, _⟩ := newRowOf_spec h
        rw [← (St.alloc_next ha).2.2.2.2.1]; exact ho
      obtain ⟨l', e1, e2⟩ := srcCells_sound (P := P) hr hob hs hx hm (Nat.le_refl _)
      cases hb with
      | same hf =>
        have hold : ∀ w2 : World, w2.heap = w.heap → (Builtin.firstCells i.size 0 (.slice none 0 0)).run P w2 = .ok #[] w2 := fun _ _ => rfl
        obtain ⟨k, f1, f2⟩ := run_append_new (ty := ty) hst hi hz hxt hxd (fun w => run_lenOf hm hx w) hroom hb1 hb2 hold e1 argTypes h0 h1
        have hln : l.length = n * i.size := by
          have := srcCells_length hr hm hstr
          exact this
        obtain ⟨ρ', g1, g2, g3⟩ := newRow_sound (l' := l') (rest := (Builtin.zeroCells z.cells (k - n)).toList) (k := k) h ((k1.holds hs).drew (w.drawn + 1)) (by rw [k1.dm]; exact e2) (by omega)
          (by rw [← e2.1, hln]; simp only [Array.length_toList, zeroCells_size, hzs]; rw [← Nat.add_mul]; congr 1; omega)
        have ew : (l' ++ (Builtin.zeroCells z.cells (k - n)).toList).toArray = #[] ++ l'.toArray ++ Builtin.zeroCells z.cells (k - (0 + n)) := by
          apply Array.ext'; simp
        rw [ew] at g2 g3
        refine ⟨_, _, ρ', f2, ?_, g2, (k1.tra ρ w).trans ((Tra.drew s1 ρ w (w.drawn + 1)).trans g3)⟩
        simpa using g1
    · simp at h
  · rename_i b o g
    split at h
    · rw [bind_some] at h
      obtain ⟨⟨q, s2⟩, hq, h⟩ := h
      obtain ⟨j1, j2, j3, j4⟩ := srcCells_like hq
      have hob2 : s2.obl := by
        obtain ⟨b, ha, _⟩ := newRowOf_spec h
        rw [← (St.alloc_next ha).2.2.2.2.1]; exact ho
      have hob : s1.obl := j4 hob2
      obtain ⟨l', e1, e2⟩ := srcCells_sound (P := P) hr hob hs hx hm (Nat.le_refl _)
      cases hb with
      | same hf => simp [flat0] at hf
      | slice hlt hle hok =>
        rename_i c' a'
        have hc' := hok.2.1 rfl
        subst hc'
        obtain ⟨q', e3, e4⟩ := srcCells_sound (P := P) hq hob2 (k1.holds hs) (x' := .slice (some a') sLen c') (by rw [k1.dm]; exact .slice hlt hle hok) rfl (Nat.le_refl _)
        obtain ⟨k, f1, f2⟩ := run_append_new (ty := ty) hst hi hz hxt hxd (fun w => run_lenOf hm hx w) hroom hb1 hb2 e3 e1 argTypes h0 h1
        have hln : l.length = n * i.size := srcCells_length hr hm hstr
        have hqn : q.length = sLen * i.size := srcCells_length hq rfl (fun t e => by cases e)
        obtain ⟨ρ', g1, g2, g3⟩ := newRow_sound (l' := q' ++ l') (rest := (Builtin.zeroCells z.cells (k - (sLen + n))).toList) (k := k) h ((j1.holds (k1.holds hs)).drew (w.drawn + 1)) (by rw [j1.dm, k1.dm]; rw [k1.dm] at e4; exact e4.append e2) f1
          (by rw [List.length_append, ← e2.1, ← e4.1, hln, hqn]; simp only [Array.length_toList, zeroCells_size, hzs]; rw [← Nat.add_mul, ← Nat.add_mul]; congr 1; omega)
        have ew : (q' ++ l' ++ (Builtin.zeroCells z.cells (k - (sLen + n))).toList).toArray = q'.toArray ++ l'.toArray ++ Builtin.zeroCells z.cells (k - (sLen + n)) := by
          apply Array.ext'; simp
        rw [ew] at g2 g3
        exact ⟨_, _, ρ', f2, g1, g2, (k1.tra ρ w).trans ((j1.tra ρ w).trans ((Tra.drew s2 ρ w (w.drawn + 1)).trans g3))⟩
    · rename_i z0
      split at h
      · rename_i hc
        obtain ⟨rfl, hmay, hone⟩ := hc
        split at h
        · rename_i c t hbk
          rw [bind_some] at h
          obtain ⟨⟨q, s2⟩, hq, h⟩ := h
          rw [bind_some] at h
          obtain ⟨s3, h3, h⟩ := h
          obtain ⟨j1, j2, j3, j5, j4⟩ := cells_readN hq
          have md := St.setOb_dm h3
          obtain ⟨m1, m2, m3, m4, m5, m6, m7, m8, m9⟩ := St.setOb_spec h3
          obtain ⟨nb, ha, hv⟩ := newRowOf_spec h
          obtain ⟨n1, n2, n3, n4, n5, n6, n7, n8, n9, n10⟩ := St.alloc_next ha
          have hob2 : s2.obl := by rw [← m4, ← n5]; exact ho
          have hob : s1.obl := (j4 hob2).1
          obtain ⟨l', e1, e2⟩ := srcCells_sound (P := P) hr hob hs hx hm (Nat.le_refl _)
          have hln : l.length = n * i.size := srcCells_length hr hm hstr
          rw [k1.heap] at hbk
          obtain ⟨pc, t', fr, p1, p2, p3, p4, p5⟩ := hs.cells hbk
          have hroB : s.roB ≤ b := by simp [St.may] at hmay; exact hmay.1
          obtain ⟨hle0, hqv⟩ := part_cells p5 j5 (j4 hob2).2
          have hs2 : Hs s2 ρ w := j1.holds (k1.holds hs)
          obtain ⟨d1, d2⟩ := drop_sound h3 hs2 (by rw [may_of (j1.roB.trans k1.roB) (j1.ro.trans k1.ro)]; exact hmay)
          have t02 : Tra s s3 ρ ρ w w := (k1.tra ρ w).trans ((j1.tra ρ w).trans d2)
          cases hb with
          | same hf => simp [flat0] at hf
          | slice hlt hle hok =>
            rename_i c' a'
            obtain ⟨hcc, hful, h1000⟩ := hok.2.2 _ rfl
            by_cases hfit : sLen + n ≤ c'
            · -- it has room there: the same block, from the slice's first cell on
              have hc0 : c' ≠ 0 := by omega
              have ea : a' = ⟨(ρ b).blk, (ρ b).off + o, none⟩ := by
                rcases hok.1 with e | e
                · exact absurd e hc0
                · exact e
              have hlen : (ρ b).off + o + c' * i.size = (ρ b).len := by
                rcases hful with e | e
                · exact absurd e hc0
                · exact e
              subst ea
              have hmul : (sLen + n) * i.size ≤ c' * i.size := Nat.mul_le_mul_right _ hfit
              have hmul2 : (sLen + n) * i.size = sLen * i.size + n * i.size := Nat.add_mul _ _ _
              have hl'n : l'.length = n * i.size := by rw [← e2.1]; exact hln
              have hone' : l'.all Value.oneCell' = true := by
                rw [List.all_eq_true] at hone ⊢
                intro y hy
                obtain ⟨j, hj⟩ := List.mem_iff_getElem?.1 hy
                have hlt' : j < l.length := by
                  rcases Nat.lt_or_ge j l'.length with h | h
                  · rw [e2.1]; exact h
                  · simp [List.getElem?_eq_none h] at hj
                rw [(e2.2 j l[j] y (by simp [hlt']) hj).one]; exact hone _ (List.getElem_mem hlt')
              obtain ⟨w', pc', r1, r2, r3, r4, r5, r6, r7, r8, r9⟩ := run_stores P (ρ b).blk ((ρ b).off + o + sLen * i.size) t' fr l' 0 pc w p1 (by rw [p2, hl'n]; omega) (p3 hroB) hone'
              have hrun : (Builtin.append_ argTypes ty #[.slice (some ⟨(ρ b).blk, (ρ b).off + o, none⟩) sLen c', x']).run P w = .ok (.slice (some ⟨(ρ b).blk, (ρ b).off + o, none⟩) (sLen + n) c') w' := by
                simp only [Builtin.append_, h0, h1, List.getElem?_toArray, List.getElem?_cons_zero, List.getElem?_cons_succ, Sem.run_bind, run_underlying hst, Result.andThen_ok, run_sizeOf (by simp [tsize, hi] : tsize P elem = some i.size), run_underlying hxt]
                cases xd <;> first
                  | exact absurd rfl (hxd _)
                  | (simp only [Bool.false_eq_true, if_false, run_lenOf hm hx w, Result.andThen_ok, hfit, Bool.not_false, if_true, Sem.run_bind, e1 w rfl, Sem.run_pure, add_none]
                     simp only [r1, Sem.run_bind, Result.andThen_ok, Sem.run_pure])
              have hnx : s3.next = s.next := by rw [m1, j1.next, k1.next]
              have hd3 : Hs s3 ρ w := d1
              have hdm' := St.alloc_dm ha hd3.hid
              have hDs : Dm s3 = Dm s := by rw [md, j1.dm, k1.dm]
              have hup2 : ∀ x, Dm s x → Dm s' x := fun x hx => hdm'.2 x (by rw [hDs]; exact hx)
              have hhid : s'.hid = s.hid := by rw [n10, m9, j1.hid, k1.hid]
              have hrb0 : s'.roB = s.roB := by rw [n3, m2, j1.roB, k1.roB]
              have hro0 : s'.ro = s.ro := by rw [n4, m3, j1.ro, k1.ro]
              let p : PB := ⟨(ρ b).blk, (ρ b).off + o, (ρ b).len⟩
              have hup : ∀ b', b' < s.next → upd ρ s.next p b' = ρ b' := fun b' hb' => upd_lt ρ p hb'
              have dead : ∀ (c : Nat) (y : Ob), s3.heap.get c = some y → c ≠ b ∧ s.heap.get c = some y := fun c y hy => by
                rw [m8] at hy
                by_cases hcb : c = b
                · rw [if_pos hcb] at hy; cases hy
                · rw [if_neg hcb, j1.heap, k1.heap] at hy; exact ⟨hcb, hy⟩
              refine ⟨_, w', upd ρ s.next p, hrun, ?_, ⟨⟨fun c y hy => ?_, fun c c2 y y2 hy hy2 hkk e => ?_, fun c c2 y y2 B hy hB hy2 hkk => ?_⟩, fun b hb => by rw [hhid]; exact hs.hid b (by omega), by rw [hrb0, hro0, n2]; exact ⟨by have := hs.wf.1; omega, fun b hb => by have := hs.wf.2 b hb; omega⟩⟩, ⟨by rw [n2]; omega, hup, r5, r6, r7, by omega, fun k hk hn => r9 k fun e => hn b _ hbk hmay e.symm, fun c y hy hmy => ?_, by rw [n3, m2, j1.roB, k1.roB], by rw [n4, m3, j1.ro, k1.ro], hhid, fun c hc => by rw [n9, if_neg (fun e => by rw [e, hnx, hs.may_next (Nat.le_refl _)] at hc; cases hc), m8, if_neg (fun e => by rw [e, hmay] at hc; cases hc), j1.heap, k1.heap]⟩⟩
              · rw [hv, n1, hnx]
                refine .slice (by rw [← hnx]; exact hdm'.1) (Nat.le_refl _) ⟨.inr (by rw [upd_at]; simp [p]), (fun e => by cases e), fun z e => ?_⟩
                cases e
                rw [upd_at]
                exact ⟨hfit, .inr (by simpa [p] using hlen), h1000⟩
              · rw [n9] at hy
                have hNn : s'.next = s.next + 1 := by rw [n2, hnx]
                have hrb : s'.roB = s.roB := by rw [n3, m2, j1.roB, k1.roB]
                rw [hrb]
                by_cases hcn : c = s3.next
                · rw [if_pos hcn] at hy; cases hy
                  rw [hcn, hnx, upd_at]
                  refine ⟨by rw [← hnx]; exact hdm'.1, pc', t', fr, r2, by rw [r4, p2], fun _ => by rw [r4]; exact p3 hroB, fun j y hy => ?_⟩
                  simp only [Cells.get] at hy
                  have hget : pc'[(ρ b).off + o + j]? = (setAll pc.toList ((ρ b).off + o + sLen * i.size + 0) l')[(ρ b).off + o + j]? := by rw [← r3]; simp
                  show ∃ v', pc'[(ρ b).off + o + j]? = some v' ∧ _
                  rw [hget, setAll_get _ _ _ _ (by simp only [Array.length_toList, p2, hl'n]; omega)]
                  rw [List.getElem?_append, j5] at hy
                  by_cases hj : j < sLen * i.size
                  · rw [if_pos hj] at hy
                    obtain ⟨y', g1, g2⟩ := hqv.get hy
                    refine ⟨y', ?_, g2.mono hup2 (fun b hb => hup b hb.1)⟩
                    rw [if_neg (by omega)]
                    rw [List.getElem?_take, if_pos hj, List.getElem?_drop] at g1
                    exact g1
                  · rw [if_neg hj] at hy
                    obtain ⟨y', g1, g2⟩ := e2.get hy
                    have hjl : j - sLen * i.size < l'.length := by
                      rcases Nat.lt_or_ge (j - sLen * i.size) l'.length with h | h
                      · exact h
                      · simp [List.getElem?_eq_none h] at g1
                    refine ⟨y', ?_, g2.mono hup2 (fun b hb => hup b hb.1)⟩
                    rw [if_pos (by omega), ← g1]; congr 1; omega
                · rw [if_neg hcn] at hy
                  obtain ⟨hcb, hy'⟩ := dead c y hy
                  obtain ⟨o1, o2⟩ := hs.ob c y hy'
                  rw [hup c o1.1]
                  exact ⟨hup2 c o1, (o2.congr id (fun q => r9 _ fun e => hcb (hs.injM hy' hbk hroB e q)) (by omega) fun B hB => r9 B fun e => hs.far c b y _ B hy' hB hbk hroB e.symm).mono hup2 (fun b hb => hup b hb.1)⟩
              · rw [n9] at hy hy2
                have key : ∀ (c : Nat) (y : Ob), s3.heap.get c = some y → y.soft = false → (upd ρ s.next p c).blk ≠ (ρ b).blk := fun c y hy q e => by
                  obtain ⟨hcb, hy'⟩ := dead c y hy
                  rw [hup c (hs.ob c y hy').1.1] at e
                  exact hcb (hs.injM hy' hbk hroB e q)
                by_cases hcn : c = s3.next <;> by_cases hcn2 : c2 = s3.next
                · exact .inl (by rw [hcn, hcn2])
                · rw [if_neg hcn2] at hy2; rw [hcn, hnx, upd_at] at e
                  cases q : y2.soft with
                  | true => exact .inr (.inr rfl)
                  | false => exact absurd e.symm (key c2 y2 hy2 q)
                · rw [if_neg hcn] at hy; rw [hcn2, hnx, upd_at] at e
                  cases q : y.soft with
                  | true => exact .inr (.inl rfl)
                  | false => exact absurd e (key c y hy q)
                · rw [if_neg hcn] at hy; rw [if_neg hcn2] at hy2
                  obtain ⟨_, hy'⟩ := dead c y hy
                  obtain ⟨_, hy2'⟩ := dead c2 y2 hy2
                  rw [hup c (hs.ob c y hy').1.1, hup c2 (hs.ob c2 y2 hy2').1.1] at e
                  exact hs.inj c c2 y y2 hy' hy2' (by rw [hrb0] at hkk; exact hkk) e
              · rw [n9] at hy hy2
                by_cases hcn : c = s3.next
                · rw [if_pos hcn] at hy; cases hy
                  obtain ⟨F, g, _, _, _, hF, _⟩ := hB
                  cases hF
                · rw [if_neg hcn] at hy
                  obtain ⟨_, hy'⟩ := dead c y hy
                  by_cases hcn2 : c2 = s3.next
                  · rw [hcn2, hnx, upd_at]
                    exact hs.far c b y _ B hy' hB hbk hroB
                  · rw [if_neg hcn2] at hy2
                    obtain ⟨_, hy2'⟩ := dead c2 y2 hy2
                    rw [hup c2 (hs.ob c2 y2 hy2').1.1]
                    exact hs.far c c2 y y2 B hy' hB hy2' (by rw [hrb0] at hkk; exact hkk)
              · rw [n9] at hy
                by_cases hcn : c = s3.next
                · right; exact ⟨b, _, hbk, hmay, by rw [hcn, hnx, upd_at]⟩
                · rw [if_neg hcn] at hy
                  obtain ⟨_, hy'⟩ := dead c y hy
                  right
                  refine ⟨c, y, hy', ?_, by rw [hup c (hs.ob c y hy').1.1]⟩
                  rw [← hmy]; exact (may_of (by rw [n3, m2, j1.roB, k1.roB]) (by rw [n4, m3, j1.ro, k1.ro]) c).symm
            · -- a new row
              have hcap : c' < sLen + n := by omega
              have hold : ∀ w2 : World, w2.heap = w.heap → (Builtin.firstCells i.size sLen (.slice (some a') sLen c')).run P w2 = .ok ((pc.toList.drop ((ρ b).off + o)).take (sLen * i.size)).toArray w2 := fun w2 hw2 => by
                simp only [Builtin.firstCells]
                rcases hle0 with e0 | hle0
                · rw [e0]; simp [loadCells, loadCellsFrom]
                · rcases Nat.eq_zero_or_pos sLen with e | e
                  · subst e; simp [loadCells, loadCellsFrom]
                  · have ea := hok.at (by omega)
                    rw [ea]; exact run_loads P _ _ _ (by rw [hw2]; exact p1) hle0
              obtain ⟨k, f1, f2⟩ := run_append_new (ty := ty) hst hi hz hxt hxd (fun w => run_lenOf hm hx w) hcap hb1 hb2 hold e1 argTypes h0 h1
              obtain ⟨ρ', g1, g2, g3⟩ := newRow_sound (l' := (pc.toList.drop ((ρ b).off + o)).take (sLen * i.size) ++ l') (rest := (Builtin.zeroCells z.cells (k - (sLen + n))).toList) (k := k) h (d1.drew (w.drawn + 1))
                (by rw [md, j1.dm, k1.dm]; exact hqv.append e2) f1
                (by rw [List.length_append, ← e2.1, ← hqv.1, hln, j5]; simp only [Array.length_toList, zeroCells_size, hzs]; rw [← Nat.add_mul, ← Nat.add_mul]; congr 1; omega)
              have ew : ((pc.toList.drop ((ρ b).off + o)).take (sLen * i.size) ++ l' ++ (Builtin.zeroCells z.cells (k - (sLen + n))).toList).toArray = ((pc.toList.drop ((ρ b).off + o)).take (sLen * i.size)).toArray ++ l'.toArray ++ Builtin.zeroCells z.cells (k - (sLen + n)) := by
                apply Array.ext'; simp
              rw [ew] at g2 g3
              exact ⟨_, _, ρ', f2, g1, g2, t02.trans ((Tra.drew s3 ρ w (w.drawn + 1)).trans g3)⟩
          | abs _ hg' _ => exact absurd (hg'.symm.trans hab) (by decide)
        · simp at h
      · simp at h
end Go.Cln
