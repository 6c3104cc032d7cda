/- A determinate reading of Go's code: slices cut, made, built; aggregates. -/
import Derived.Test.YtpfmilkddapfiaaClnP4
namespace Go.Cln
set_option linter.unusedVariables false
set_option linter.unusedSimpArgs false
set_option linter.deprecated false
theorem optInt_some {v : Option Value} {d n : Int} (h : optInt v d = some n) : (v = none ∧ n = d) ∨ ∃ k, v = some (.int k n) := by
  cases v with
  | none => simp [optInt] at h; exact .inl ⟨rfl, h.symm⟩
  | some v => simp [optInt] at h; obtain ⟨k, rfl⟩ := intVal_some h; exact .inr ⟨k, rfl⟩
theorem run_sliceBound {P : Program} (k : IntKind) (i : Int) (y : Nat) (code : BoundsCode) (w : World) (h : 0 ≤ i ∧ i ≤ y) : (Instr.sliceBound (.int k i) y code).run P w = .ok i.toNat w := by
  simp [Instr.sliceBound, asIntOf, h.1, h.2]
theorem run_sliceBounds {P : Program} {isS : Bool} {len cap : Nat} {lo hi : Option Value} {l h : Int} (hl : optInt lo 0 = some l) (hh : optInt hi len = some h) (h1 : 0 ≤ h) (h2 : h ≤ cap) (h3 : 0 ≤ l) (h4 : l ≤ h) (w : World) :
    (Instr.sliceBounds isS len cap lo hi none).run P w = .ok (l.toNat, h.toNat, cap) w := by
  have e : ((h.toNat : Nat) : Int) = h := by omega
  rcases optInt_some hh with ⟨rfl, rfl⟩ | ⟨k, rfl⟩
  · rcases optInt_some hl with ⟨rfl, rfl⟩ | ⟨k', rfl⟩
    · simp [Instr.sliceBounds]
    · simp [Instr.sliceBounds, run_sliceBound k' l len .sliceB w ⟨h3, h4⟩]
  · rcases optInt_some hl with ⟨rfl, rfl⟩ | ⟨k', rfl⟩
    · simp [Instr.sliceBounds, run_sliceBound k h cap _ w ⟨h1, h2⟩]
    · simp [Instr.sliceBounds, run_sliceBound k h cap _ w ⟨h1, h2⟩, run_sliceBound k' l h.toNat .sliceB w ⟨h3, by omega⟩]
theorem cut_val {N : Nat → Prop} {ρ : Nat → PB} {b o n l h cap c' : Nat} {g : Option Nat} {a' : Addr} (hb : N b) (hok : SliceOk (ρ b) o g cap a' c') (hg : growFits g n = true) (h1 : h ≤ cap) (h2 : l ≤ h) :
    VR N ρ (.slice (some ⟨b, o + l * n, g⟩) (h - l) (cap - l)) (.slice (some (if c' = l then a' else a'.add (l * n))) (h - l) (c' - l)) := by
  refine .slice hb (by omega) ⟨?_, fun e => ?_, fun z e => ?_⟩
  · rcases Nat.eq_zero_or_pos (c' - l) with e | e
    · exact .inl e
    · right
      rw [if_neg (by omega)]
      rcases hok.1 with e' | e'
      · omega
      · rw [e', add_none]; simp [Nat.add_assoc]
  · rw [hok.2.1 e]
  · obtain ⟨k1, k2, k3⟩ := hok.2.2 z e
    refine ⟨by omega, ?_, k3⟩
    rcases Nat.eq_zero_or_pos (c' - l) with e' | e'
    · exact .inl e'
    · right
      subst e
      have hb : Nat.ble 1000 z = false := by rw [Bool.eq_false_iff]; intro e; have := Nat.le_of_ble_eq_true e; omega
      simp only [growFits, hb] at hg
      have hg : z = n := by simpa using hg
      subst hg
      rcases k2 with k2 | k2
      · omega
      · rw [← k2]
        have : c' = (c' - l) + l := by omega
        rw [this]; simp only [Nat.add_sub_cancel, Nat.add_mul]; omega
theorem cutSlice_spec {P : Program} {s s' : St} {lo hi : Option Value} {b o len cap elem : Nat} {g : Option Nat} {v : Value} (h : cutSlice P s lo hi b o g len cap elem = some (v, s')) :
    ∃ (l k : Int) (n : Nat), optInt lo 0 = some l ∧ optInt hi len = some k ∧ tsize P elem = some n ∧ growFits g n = true ∧ v = .slice (some ⟨b, o + l.toNat * n, g⟩) (k.toNat - l.toNat) (cap - l.toNat) ∧
      Like s s' ∧ s'.tmps = s.tmps ∧ s'.defers = s.defers ∧ (s'.obl → s.obl ∧ 0 ≤ k ∧ k ≤ (cap : Int) ∧ 0 ≤ l ∧ l ≤ k) := by
  unfold cutSlice at h
  split at h
  · rename_i l k n h1 h2 h3
    split at h
    · rename_i hg
      rw [bind_some] at h
      obtain ⟨s1, h4, h⟩ := h
      simp at h; obtain ⟨rfl, rfl⟩ := h
      obtain ⟨a1, a2, a3, a4⟩ := St.need_spec h4
      exact ⟨l, k, n, h1, h2, h3, hg, rfl, a1, a2, a3, a4⟩
    · simp at h
  · simp at h
theorem abs_val {N : Nat → Prop} {ρ : Nat → PB} {B o n l h cap len g : Nat} {w : Value} (z0 : N 0) (hg : isAbs (some g) = true) (hk : AbsOk B o len cap w) (h1 : h ≤ cap) (h2 : l ≤ h) :
    ∃ a c', w = .slice a len c' ∧ cap ≤ c' ∧ VR N ρ (.slice (some ⟨B, o + l * n, some g⟩) (h - l) (cap - l)) (.slice (if c' = l then a else a.map (·.add (l * n))) (h - l) (c' - l)) := by
  obtain ⟨hle, rfl | ⟨rfl, a, c', rfl⟩⟩ := hk
  · refine ⟨_, _, rfl, Nat.le_refl _, .abs z0 hg ⟨by omega, ?_⟩⟩
    by_cases e : cap = l
    · right
      rw [if_pos e]
      have e1 : h - l = 0 := by omega
      have e2 : cap - l = 0 := by omega
      rw [e1, e2]; exact ⟨rfl, _, _, rfl⟩
    · left; rw [if_neg e]; simp [add_none, Nat.add_assoc]
  · have e0 : len = 0 := by omega
    subst e0
    refine ⟨a, c', rfl, by omega, .abs z0 hg ⟨by omega, .inr ⟨by omega, ?_⟩⟩⟩
    have e1 : h - l = 0 := by omega
    rw [e1]; exact ⟨_, _, rfl⟩
theorem doSlice_sound {P : Program} {s s' : St} {t : TypeId} {x x' v : Value} {lo hi : Option Value} {N : Nat → Prop} {ρ : Nat → PB} (h : doSlice P s t x lo hi = some (v, s')) (hx : VR N ρ x x') :
    Like s s' ∧ s'.tmps = s.tmps ∧ s'.defers = s.defers ∧ (s'.obl → s.obl ∧ ∃ v', (∀ w, (Instr.sliceAt t x' lo hi none).run P w = .ok v' w) ∧ VR N ρ v v') := by
  unfold doSlice at h
  split at h
  · rename_i n elem b o hu
    obtain ⟨l, k, m, e1, e2, e3, e4, rfl, a1, a2, a3, a4⟩ := cutSlice_spec h
    refine ⟨a1, a2, a3, fun hob => ⟨(a4 hob).1, ?_⟩⟩
    obtain ⟨b1, b2, b3, b4⟩ := (a4 hob).2
    cases hx with
    | same hf => simp [flat0] at hf
    | ptr hlt =>
      refine ⟨_, fun w => ?_, cut_val (c' := n) (a' := ⟨(ρ b).blk, (ρ b).off + o, none⟩) hlt ⟨.inr rfl, fun _ => rfl, fun z e => by cases e⟩ e4 (by omega) (by omega)⟩
      simp only [Instr.sliceAt, Sem.run_bind, run_underlying hu, Result.andThen_ok, Instr.sureAddr, Sem.run_pure, run_sliceBounds (P := P) (isS := false) e1 e2 b1 b2 b3 b4 w, run_sizeOf e3]
  · rename_i elem b o g len cap hu
    obtain ⟨l, k, m, e1, e2, e3, e4, rfl, a1, a2, a3, a4⟩ := cutSlice_spec h
    refine ⟨a1, a2, a3, fun hob => ⟨(a4 hob).1, ?_⟩⟩
    obtain ⟨b1, b2, b3, b4⟩ := (a4 hob).2
    cases hx with
    | same hf => simp [flat0] at hf
    | slice hlt hle hok =>
      rename_i c' a'
      have hcc : cap ≤ c' := by
        cases g with
        | none => have := hok.2.1 rfl; omega
        | some z => exact (hok.2.2 z rfl).1
      refine ⟨_, fun w => ?_, cut_val hlt hok e4 (by omega) (by omega)⟩
      simp only [Instr.sliceAt, Instr.slice, Sem.run_bind, run_underlying hu, Result.andThen_ok, Sem.run_pure, run_sliceBounds (P := P) (isS := true) (cap := c') e1 e2 b1 (by omega) b3 b4 w, run_sizeOf e3]
      simp
      split <;> rfl
    | abs z0 hg hk =>
      obtain ⟨a, c', rfl, hcc, hv⟩ := abs_val (N := N) (ρ := ρ) (n := m) z0 hg hk (show k.toNat ≤ cap by omega) (show l.toNat ≤ k.toNat by omega)
      refine ⟨_, fun w => ?_, hv⟩
      simp only [Instr.sliceAt, Instr.slice, Sem.run_bind, run_underlying hu, Result.andThen_ok, Sem.run_pure, run_sliceBounds (P := P) (isS := true) (cap := c') e1 e2 b1 (by omega) b3 b4 w, run_sizeOf e3]
  · simp at h
theorem doSlice3_sound {P : Program} {s s' : St} {t : TypeId} {x x' v : Value} {lo hi mx : Option Value} {N : Nat → Prop} {ρ : Nat → PB} (h : doSlice3 P s t x lo hi mx = some (v, s')) (hx : VR N ρ x x') :
    Like s s' ∧ s'.tmps = s.tmps ∧ s'.defers = s.defers ∧ (s'.obl → s.obl ∧ ∃ v', (∀ w, (Instr.sliceAt t x' lo hi mx).run P w = .ok v' w) ∧ VR N ρ v v') := by
  unfold doSlice3 at h
  split at h
  · rename_i elem b o g len cap hu
    unfold cutSlice3 at h
    split at h
    · rename_i l k m n h1 h2 h3 h4
      split at h
      · rename_i hg
        rw [bind_some] at h
        obtain ⟨s1, h5, h⟩ := h
        simp at h; obtain ⟨rfl, rfl⟩ := h
        obtain ⟨a1, a2, a3, a4⟩ := St.need_spec h5
        refine ⟨a1, a2, a3, fun hob => ⟨(a4 hob).1, ?_⟩⟩
        obtain ⟨b1, b2, b3, b4, b5, b6⟩ := (a4 hob).2
        rw [bind_some] at h2 h3
        obtain ⟨hv, rfl, h2⟩ := h2
        obtain ⟨mv, rfl, h3⟩ := h3
        obtain ⟨kk, rfl⟩ := intVal_some h2
        obtain ⟨km, rfl⟩ := intVal_some h3
        cases hx with
        | same hf => simp [flat0] at hf
        | slice hlt hle hok =>
          rename_i c' a'
          have hcc : cap ≤ c' := by
            cases g with
            | none => have := hok.2.1 rfl; omega
            | some z => exact (hok.2.2 z rfl).1
          have hna : isAbs g = false := by
            cases g with
            | none => rfl
            | some z =>
              have := (hok.2.2 z rfl).2.2
              unfold isAbs
              rw [Bool.eq_false_iff]; intro e; have := Nat.le_of_ble_eq_true e; omega
          rw [if_neg (by rw [hna]; exact Bool.false_ne_true)]
          refine ⟨.slice (some (if m.toNat = l.toNat then a' else a'.add (l.toNat * n))) (k.toNat - l.toNat) (m.toNat - l.toNat), fun w => ?_, .slice hlt (by omega) ⟨?_, fun _ => rfl, fun z e => by cases e⟩⟩
          · simp only [Instr.sliceAt, Instr.slice, Sem.run_bind, run_underlying hu, Result.andThen_ok, Sem.run_pure, Instr.sliceBounds, run_sliceBound km m c' _ w ⟨b1, by omega⟩, run_sliceBound kk k m.toNat _ w ⟨b3, by omega⟩, if_true, Option.isSome]
            rcases optInt_some h1 with ⟨rfl, rfl⟩ | ⟨kl, rfl⟩
            · simp [run_sizeOf h4]
              split <;> rfl
            · simp [run_sizeOf h4, run_sliceBound kl l k.toNat _ w ⟨b5, by omega⟩]
              split <;> rfl
          · rcases Nat.eq_zero_or_pos (m.toNat - l.toNat) with e | e
            · exact .inl e
            · right
              rw [if_neg (by omega)]
              rcases hok.1 with e' | e'
              · omega
              · rw [e', add_none]; simp [Nat.add_assoc]
        | abs z0 hg' hk =>
          rename_i gz
          have key : ∃ a c', x' = .slice a len c' ∧ cap ≤ c' ∧ VR N ρ (.slice (some ⟨b, o + l.toNat * n, some gz⟩) (k.toNat - l.toNat) (m.toNat - l.toNat)) (.slice (if m.toNat = l.toNat then a else a.map (·.add (l.toNat * n))) (k.toNat - l.toNat) (m.toNat - l.toNat)) := by
            obtain ⟨hle, rfl | ⟨rfl, a, c', rfl⟩⟩ := hk
            · refine ⟨_, _, rfl, Nat.le_refl _, .abs z0 hg' ⟨by omega, ?_⟩⟩
              by_cases e : m.toNat = l.toNat
              · right
                rw [if_pos e]
                have e1 : k.toNat - l.toNat = 0 := by omega
                have e2 : m.toNat - l.toNat = 0 := by omega
                rw [e1, e2]; exact ⟨rfl, _, _, rfl⟩
              · left; rw [if_neg e]; simp [add_none, Nat.add_assoc]
            · have e0 : len = 0 := by omega
              subst e0
              refine ⟨a, c', rfl, by omega, .abs z0 hg' ⟨by omega, .inr ⟨by omega, ?_⟩⟩⟩
              have e1 : k.toNat - l.toNat = 0 := by omega
              rw [e1]; exact ⟨_, _, rfl⟩
          obtain ⟨a, c', rfl, hcc, hv⟩ := key
          rw [if_pos hg']
          refine ⟨_, fun w => ?_, hv⟩
          simp only [Instr.sliceAt, Instr.slice, Sem.run_bind, run_underlying hu, Result.andThen_ok, Sem.run_pure, Instr.sliceBounds, run_sliceBound km m c' _ w ⟨b1, by omega⟩, run_sliceBound kk k m.toNat _ w ⟨b3, by omega⟩, if_true, Option.isSome]
          rcases optInt_some h1 with ⟨rfl, rfl⟩ | ⟨kl, rfl⟩
          · simp [run_sizeOf h4]
          · simp [run_sizeOf h4, run_sliceBound kl l k.toNat _ w ⟨b5, by omega⟩]
      · simp at h
    · simp at h
  · simp at h
theorem zeroRow_get (z : List Value) (hz : z ≠ []) : ∀ (n i : Nat), (zeroRow z n)[i]? = if i < n * z.length then z[i % z.length]? else none
  | 0, i => by simp [zeroRow]
  | n + 1, i => by
    have hpos : 0 < z.length := List.length_pos_iff.2 hz
    have hlen : (zeroRow z n).length = n * z.length := by
      clear i
      induction n with
      | zero => simp [zeroRow]
      | succ n ih => simp [zeroRow, ih, Nat.add_mul]
    simp only [zeroRow]
    rw [List.getElem?_append, hlen, zeroRow_get z hz n i]
    by_cases h1 : i < n * z.length
    · rw [if_pos h1, if_pos h1, if_pos (by rw [Nat.add_mul]; omega)]
    · rw [if_neg h1]
      by_cases h2 : i < (n + 1) * z.length
      · rw [if_pos h2]
        have e : i % z.length = i - n * z.length := by
          obtain ⟨j, rfl⟩ : ∃ j, i = n * z.length + j := ⟨i - n * z.length, by omega⟩
          have : j < z.length := by rw [Nat.add_mul] at h2; omega
          rw [Nat.add_comm, Nat.add_mul_mod_self_right, Nat.mod_eq_of_lt this]; omega
        rw [e]
      · rw [if_neg h2, List.getElem?_eq_none]; rw [Nat.add_mul] at h2; omega
theorem zeros_get (z : Array Value) (n : Nat) (hz : z.size ≠ 0) (i : Nat) : ((Array.range n).map (z[· % z.size]!))[i]? = if i < n then z[i % z.size]? else none := by
  have hlt : i % z.size < z.size := Nat.mod_lt _ (by omega)
  by_cases h : i < n
  · rw [if_pos h]; simp [h, hlt]
  · rw [if_neg h]; simp; omega
theorem doMakeSlice_sound {P : Program} {s s' : St} {t : TypeId} {l c v : Value} {ρ : Nat → PB} {w : World} (h : doMakeSlice P s t l c = some (v, s')) (ho : s'.obl) (hs : Hs s ρ w) :
    (∀ z, z ∈ ((P.underlying t).bind fun d => match d with | .slice e => zeroOf P e | _ => none) → Dflat z) →
    ∃ v' w' ρ', (Instr.makeSlice t l c).run P w = .ok v' w' ∧ VR (Dm s') ρ' v v' ∧ Hs s' ρ' w' ∧ Tra s s' ρ ρ' w w' := by
  intro hz0
  unfold doMakeSlice at h
  split at h
  · rename_i elem l c hu hl hc
    obtain ⟨kl, rfl⟩ := intVal_some hl
    obtain ⟨kc, rfl⟩ := intVal_some hc
    split at h
    · rename_i i hi
      split at h
      · rename_i z hz
        split at h
        · rename_i hcond
          obtain ⟨hlen, hne⟩ := hcond
          rw [bind_some] at h
          obtain ⟨s1, h1, h⟩ := h
          rw [bind_some] at h
          obtain ⟨⟨b, s2⟩, h2, h⟩ := h
          simp at h; obtain ⟨rfl, rfl⟩ := h
          obtain ⟨a1, a2, a3, a4⟩ := St.need_spec h1
          have hob : s1.obl := by rw [← (St.alloc_next h2).2.2.2.2.1]; exact ho
          obtain ⟨b1, b2, b3, b4⟩ := (a4 hob).2
          have hflat : Dflat z := hz0 z (by simp [hu, zeroOf, hi, hz])
          have hcells : ∀ x ∈ z.cells.toList, VR (Dm s) ρ x x := fun x hx => by
            have := (VR.of_dflat (N := Dm s) (ρ := ρ) hflat).cells
            obtain ⟨j, hj⟩ := List.mem_iff_getElem?.1 hx
            exact this.2 j x x hj hj
          have hzs : z.cells.size ≠ 0 := by have := hlen; simp at this; omega
          have hzne : z.cells.toList ≠ [] := by intro e; apply hzs; have := congrArg List.length e; simpa using this
          have hsz : z.cells.size = i.size := by simpa using hlen
          obtain ⟨rfl, f1, f2⟩ := row_sound (w := w) (ρ := ρ) (pc := if c.toNat * i.size = 0 then #[] else (Array.range (c.toNat * i.size)).map (z.cells[· % z.cells.size]!)) (t' := elem) (fr := (0, 0)) h2 (a1.holds hs) (.inl rfl) (fun j x hj => by
            rw [a1.dm]
            have key : (zeroRow z.cells.toList c.toNat)[j]? = some x := by
              split at hj
              · rename_i v0 _ e0 _
                simp only [Cells.get] at hj
                rw [zeroRow_get _ hzne, e0]
                split at hj
                · rename_i hjc; simp at hj; subst hj; simp [hjc, Nat.mod_one]
                · simp at hj
              · rename_i k0 n0 _ e0 _
                simp only [Cells.get] at hj
                rw [zeroRow_get _ hzne, e0]
                rw [List.getElem?_replicate] at hj
                split at hj
                · rename_i hjc; simp at hj; subst hj; simp [hjc, Nat.mod_one]
                · simp at hj
              · simpa [Cells.get] using hj
            rw [zeroRow_get _ hzne] at key
            split at key
            · rename_i hjl
              simp only [Array.length_toList, hsz] at hjl
              refine ⟨x, ?_, hcells x (List.mem_of_getElem? key)⟩
              rw [if_neg (by omega), zeros_get _ _ hzs, if_pos hjl, ← key]; simp
            · simp at key)
          refine ⟨.slice (some ⟨w.heap.size, 0, none⟩) l.toNat c.toNat, _, _, ?_, ?_, f1, a1.thenTra f2⟩
          · have hz1 : (zeroValue elem).run P w = .ok z w := run_zero (by simp [zeroOf, hi, hz]) w
            have hs1 : (sizeOf elem).run P w = .ok i.size w := run_sizeOf (by simp [tsize, hi]) w
            have wl : IntKind.i64.wrap l = l := by simp [IntKind.wrap, IntKind.bits, IntKind.signed]; omega
            have wc : IntKind.i64.wrap c = c := by simp [IntKind.wrap, IntKind.bits, IntKind.signed]; omega
            have hbig : ∀ n : Int, 0 ≤ n → (i.bytes : Int) * n ≤ 35184372088832 → (n < 0 || decide ((i.bytes : Int) * n > 2 ^ 48)) = false := fun n h0 h1 => by simp; omega
            simp only [Instr.makeSlice, Sem.run_bind, run_underlying hu, Result.andThen_ok, asInt, asIntOf, Sem.run_pure, run_typeInfo hi, wl, wc]
            rw [if_neg (by rw [hbig c (by omega) b3]; simp; omega)]
            simp only [Sem.run_bind, run_askRoom, Result.andThen_ok, hs1, newRow]
            by_cases e0 : c.toNat * i.size = 0
            · have hem : ∀ f : Nat → Value, Array.map f (Array.range 0) = #[] := fun f => Array.eq_empty_of_size_eq_zero (by simp)
              simp [e0, hem]
            · simp only [e0, if_false, Sem.run_bind, hz1, Sem.run_pure, Result.andThen_ok, run_newObj, World.alloc_eq]
          · have this := VR.slice (N := Dm s2) (ρ := upd ρ s1.next ⟨w.heap.size, 0, (if c.toNat * i.size = 0 then #[] else (Array.range (c.toNat * i.size)).map (z.cells[· % z.cells.size]!)).size⟩) (b := s1.next) (o := 0) (n := l.toNat) (c := c.toNat) (c' := c.toNat) (g := none) (a' := ⟨w.heap.size, 0, none⟩) (St.alloc_dm h2 (a1.holds hs).hid).1 (by omega) ⟨.inr (by rw [upd_at]), fun _ => rfl, fun z e => by cases e⟩
            exact this
        · simp at h
      · simp at h
    · simp at h
  · simp at h
end Go.Cln
