/- A determinate reading of Go's code: copies, lengths, conversions, comparisons, slices built. -/
import Derived.Test.YtpfmilkddapfiaaClnP7
namespace Go.Cln
set_option linter.unusedVariables false
set_option linter.unusedSimpArgs false
set_option linter.deprecated false
theorem doLen_sound {P : Program} {s s' : St} {argTypes : Array TypeId} {ty : TypeId} {vs : List Value} {v : Value} {N : Nat → Prop} {ρ : Nat → PB} {vs' : List Value} (h : doLen P s argTypes vs = some (v, s')) (hv : VL N ρ vs vs') :
    s' = s ∧ ∃ v', (∀ w, (Builtin.len_ argTypes ty vs'.toArray).run P w = .ok v' w) ∧ VR N ρ v v' := by
  unfold doLen at h
  split at h
  · rename_i a n c
    split at h
    · rename_i t ht
      split at h
      · rename_i e hu
        simp at h; obtain ⟨rfl, rfl⟩ := h
        obtain ⟨x', r, rfl, hx, hr⟩ := hv.inv_cons
        rw [hr.inv_nil]
        cases hx with
        | same hf => simp [flat0] at hf
        | slice _ _ _ =>
          refine ⟨rfl, goInt n, fun w => ?_, .same rfl⟩
          simp [Builtin.len_, ht, run_underlying hu]
        | abs _ _ k =>
          obtain ⟨k, rfl | ⟨rfl, a, c', rfl⟩⟩ := k
          · refine ⟨rfl, goInt n, fun w => ?_, .same rfl⟩
            simp [Builtin.len_, ht, run_underlying hu]
          · obtain rfl := Nat.le_zero.1 k
            refine ⟨rfl, goInt 0, fun w => ?_, .same rfl⟩
            simp [Builtin.len_, ht, run_underlying hu]
      · simp at h
    · simp at h
  · simp at h
def eqOp (neg : Bool) : BinOp := if neg then .neq else .eql
theorem eq_run {P : Program} {t : TypeId} {neg : Bool} {x' y' : Value} {p q : Operand} {b : Bool} (hg : ∀ w, (eqGuard (eqOp neg) t p q x' y').run P w = .ok () w) (he : ∀ w, (Op.equal t x' y').run P w = .ok b w)
    (hb : binOp (eqOp neg) t x' y' = if neg then (do pure (.bool (!(← Op.equal t x' y')))) else (do pure (.bool (← Op.equal t x' y')))) (w : World) :
    (do eqGuard (eqOp neg) t p q x' y'; binOp (eqOp neg) t x' y' : Sem Value).run P w = .ok (.bool (if neg then !b else b)) w := by
  simp only [Sem.run_bind, hg, Result.andThen_ok, hb]
  cases neg <;> simp [he]
theorem equal_of {P : Program} {t : TypeId} {x y : Value} {b : Bool} (h : ∀ d w, (Op.equalIn (d + 1) t x y).run P w = .ok b w) (w : World) : (Op.equal t x y).run P w = .ok b w := h 9999 w
theorem doEq_sound {P : Program} {s s' : St} {t : TypeId} {neg : Bool} {x y x' y' v : Value} {N : Nat → Prop} {ρ : Nat → PB} {p q : Operand} (h : doEq P s neg t x y = some (v, s')) (hx : VR N ρ x x') (hy : VR N ρ y y') :
    s' = s ∧ VR N ρ v v ∧ ∀ w, (do eqGuard (eqOp neg) t p q x' y'; binOp (eqOp neg) t x' y' : Sem Value).run P w = .ok v w := by
  unfold doEq at h
  simp only at h
  split at h
  · rename_i e a hu
    simp only [Option.some.injEq, Prod.mk.injEq] at h; obtain ⟨rfl, rfl⟩ := h
    refine ⟨rfl, .same rfl, ?_⟩
    cases hx.eq_flat0 rfl
    cases hy with
    | same hf => simp [flat0] at hf
    | ptr _ => exact eq_run (fun w => by cases neg <;> simp [eqGuard, eqOp]) (fun w => equal_of (fun d w => by rw [Op.equalIn]; simp only [Sem.run_bind, run_underlying hu, Result.andThen_ok]; rfl) w) (by cases neg <;> simp [binOp, eqOp])
    | absP _ _ => exact eq_run (fun w => by cases neg <;> simp [eqGuard, eqOp]) (fun w => equal_of (fun d w => by rw [Op.equalIn]; simp only [Sem.run_bind, run_underlying hu, Result.andThen_ok]; rfl) w) (by cases neg <;> simp [binOp, eqOp])
  · rename_i e a hu
    simp only [Option.some.injEq, Prod.mk.injEq] at h; obtain ⟨rfl, rfl⟩ := h
    refine ⟨rfl, .same rfl, ?_⟩
    cases hy.eq_flat0 rfl
    cases hx with
    | same hf => simp [flat0] at hf
    | ptr _ => exact eq_run (fun w => by cases neg <;> simp [eqGuard, eqOp]) (fun w => equal_of (fun d w => by rw [Op.equalIn]; simp only [Sem.run_bind, run_underlying hu, Result.andThen_ok]; rfl) w) (by cases neg <;> simp [binOp, eqOp])
    | absP _ _ => exact eq_run (fun w => by cases neg <;> simp [eqGuard, eqOp]) (fun w => equal_of (fun d w => by rw [Op.equalIn]; simp only [Sem.run_bind, run_underlying hu, Result.andThen_ok]; rfl) w) (by cases neg <;> simp [binOp, eqOp])
  · rename_i e _ _ a _ _ hu
    split at h
    · cases h
    rename_i hga
    simp only [Option.some.injEq, Prod.mk.injEq] at h; obtain ⟨rfl, rfl⟩ := h
    refine ⟨rfl, .same rfl, ?_⟩
    cases hx.eq_flat0 rfl
    cases hy with
    | same hf => simp [flat0] at hf
    | slice _ _ _ => exact eq_run (fun w => by cases neg <;> simp [eqGuard, eqOp]) (fun w => equal_of (fun d w => by rw [Op.equalIn]; simp only [Sem.run_bind, run_underlying hu, Result.andThen_ok]; rfl) w) (by cases neg <;> simp [binOp, eqOp])
    | abs _ hg _ => exact absurd hg hga
  · rename_i e a _ _ _ _ hu
    split at h
    · cases h
    rename_i hga
    simp only [Option.some.injEq, Prod.mk.injEq] at h; obtain ⟨rfl, rfl⟩ := h
    refine ⟨rfl, .same rfl, ?_⟩
    cases hy.eq_flat0 rfl
    cases hx with
    | same hf => simp [flat0] at hf
    | slice _ _ _ => exact eq_run (fun w => by cases neg <;> simp [eqGuard, eqOp]) (fun w => equal_of (fun d w => by rw [Op.equalIn]; simp only [Sem.run_bind, run_underlying hu, Result.andThen_ok]; rfl) w) (by cases neg <;> simp [binOp, eqOp])
    | abs _ hg _ => exact absurd hg hga
  · rename_i _ _ _ f a b hu
    simp only [Option.some.injEq, Prod.mk.injEq] at h; obtain ⟨rfl, rfl⟩ := h
    refine ⟨rfl, .same rfl, ?_⟩
    cases hx.eq_flat0 rfl
    have hy2 : ∃ f a b, y' = .func f a b := by cases hy <;> exact ⟨_, _, _, rfl⟩
    obtain ⟨f, a, b, rfl⟩ := hy2
    exact eq_run (fun w => by cases neg <;> simp [eqGuard, eqOp]) (fun w => equal_of (fun d w => by rw [Op.equalIn]; simp only [Sem.run_bind, run_underlying hu, Result.andThen_ok]; rfl) w) (by cases neg <;> simp [binOp, eqOp])
  · rename_i _ _ _ f a b hu
    simp only [Option.some.injEq, Prod.mk.injEq] at h; obtain ⟨rfl, rfl⟩ := h
    refine ⟨rfl, .same rfl, ?_⟩
    cases hy.eq_flat0 rfl
    have hx2 : ∃ f a b, x' = .func f a b := by cases hx <;> exact ⟨_, _, _, rfl⟩
    obtain ⟨f, a, b, rfl⟩ := hx2
    exact eq_run (fun w => by cases neg <;> simp [eqGuard, eqOp]) (fun w => equal_of (fun d w => by rw [Op.equalIn]; simp only [Sem.run_bind, run_underlying hu, Result.andThen_ok]; rfl) w) (by cases neg <;> simp [binOp, eqOp])
  · rename_i hu
    simp only [Option.some.injEq, Prod.mk.injEq] at h; obtain ⟨rfl, rfl⟩ := h
    refine ⟨rfl, .same rfl, ?_⟩
    cases hx.eq_flat0 rfl
    cases hy with
    | same hf => simp [flat0] at hf
    | mapv _ => exact eq_run (fun w => by cases neg <;> simp [eqGuard, eqOp]) (fun w => equal_of (fun d w => by rw [Op.equalIn]; simp only [Sem.run_bind, run_underlying hu, Result.andThen_ok]; rfl) w) (by cases neg <;> simp [binOp, eqOp])
  · rename_i hu
    simp only [Option.some.injEq, Prod.mk.injEq] at h; obtain ⟨rfl, rfl⟩ := h
    refine ⟨rfl, .same rfl, ?_⟩
    cases hy.eq_flat0 rfl
    cases hx with
    | same hf => simp [flat0] at hf
    | mapv _ => exact eq_run (fun w => by cases neg <;> simp [eqGuard, eqOp]) (fun w => equal_of (fun d w => by rw [Op.equalIn]; simp only [Sem.run_bind, run_underlying hu, Result.andThen_ok]; rfl) w) (by cases neg <;> simp [binOp, eqOp])
  · simp at h
theorem softNil_sound {P : Program} {s s' : St} {neg : Bool} {t : TypeId} {x y x' y' v : Value} {N : Nat → Prop} {ρ : Nat → PB} {p q : Operand} (h : softNil P s neg t x y = some (v, s')) (hx : VR N ρ x x') (hy : VR N ρ y y') :
    Like s s' ∧ s'.tmps = s.tmps ∧ s'.defers = s.defers ∧ (s'.obl → s.obl ∧ VR N ρ v v ∧ ∀ w, (do eqGuard (eqOp neg) t p q x' y'; binOp (eqOp neg) t x' y' : Sem Value).run P w = .ok v w) := by
  unfold softNil at h
  split at h
  · rename_i e hu
    split at h
    · rename_i a n c
      split at h
      · split at h
        · rename_i hga
          simp only [Option.some.injEq, Prod.mk.injEq] at h; obtain ⟨rfl, rfl⟩ := h
          refine ⟨⟨rfl, rfl, rfl, rfl, rfl⟩, rfl, rfl, fun ho => ⟨ho.1, .same rfl, ?_⟩⟩
          have hc : 0 < n ∨ 0 < c := ho.2
          cases hy.eq_flat0 rfl
          cases hx with
          | same hf => simp [flat0] at hf
          | slice _ _ hk =>
            refine eq_run (fun w => by cases neg <;> simp [eqGuard, eqOp]) (fun w => equal_of (fun d w => by rw [Op.equalIn]; simp only [Sem.run_bind, run_underlying hu, Result.andThen_ok]; rfl) w) (by cases neg <;> simp [binOp, eqOp])
          | abs _ hg hk =>
            obtain ⟨hn, hk⟩ := hk
            rcases hk with rfl | ⟨h0, _⟩
            · exact eq_run (fun w => by cases neg <;> simp [eqGuard, eqOp]) (fun w => equal_of (fun d w => by rw [Op.equalIn]; simp only [Sem.run_bind, run_underlying hu, Result.andThen_ok]; rfl) w) (by cases neg <;> simp [binOp, eqOp])
            · omega
        · cases h
      · cases h
    · cases h
  · cases h
theorem clearCells {P : Program} {s s' : St} {argTypes : Array TypeId} {ty : TypeId} {vs vs' : List Value} {v : Value} {ρ : Nat → PB} {w : World} (hz : ∀ t z, zeroOf P t = some z → Dflat z) (h : doClear P s argTypes vs = some (v, s')) (ho : s'.obl) (hs : Hs s ρ w) (hv : VL (Dm s) ρ vs vs') :
    ∃ v' w', (Builtin.clear_ argTypes ty vs'.toArray).run P w = .ok v' w' ∧ VR (Dm s') ρ v v' ∧ Hs s' ρ w' ∧ Tra s s' ρ ρ w w' := by
  unfold doClear at h
  split at h
  · rename_i b o g n c
    split at h
    · cases h
    rename_i hga
    split at h
    · rename_i t ht
      split at h
      · rename_i e hu
        obtain ⟨x', r, rfl, hx, hr⟩ := hv.inv_cons
        rw [hr.inv_nil]
        split at h
        · rename_i hn; subst hn
          simp at h; obtain ⟨rfl, rfl⟩ := h
          cases hx with
          | same hf => simp [flat0] at hf
          | slice _ _ _ => exact ⟨.tuple #[], w, by simp [Builtin.clear_, ht, run_underlying hu], VR.of_flat rfl, hs, Tra.refl _ _ _⟩
          | abs _ hg _ => exact absurd hg hga
        · rename_i hn
          split at h
          · rename_i z hzz
            rw [bind_some] at h
            obtain ⟨s1, h1, h⟩ := h
            simp at h; obtain ⟨rfl, rfl⟩ := h
            have hzc : VL (Dm s) ρ z.cells.toList z.cells.toList := (VR.of_dflat (hz e z hzz)).cells
            have hzv : VL (Dm s) ρ (Builtin.zeroCells z.cells n).toList (Builtin.zeroCells z.cells n).toList := VL.of_forall fun x hx => by
              simp only [Builtin.zeroCells, Array.toList_map, List.mem_map] at hx
              obtain ⟨j, hj, rfl⟩ := hx
              simp only [Array.toList_range, List.mem_range] at hj
              have hpos : 0 < z.cells.size := by rcases Nat.eq_zero_or_pos z.cells.size with e | e
                                                 · rw [e] at hj; simp at hj
                                                 · exact e
              have hlt : j % z.cells.size < z.cells.size := Nat.mod_lt _ hpos
              exact hzc.2 (j % z.cells.size) _ _ (by simp [hlt]) (by simp [hlt])
            obtain ⟨w', e1, e2, e3⟩ := storeAll_sound (P := P) h1 ho hs hzv
            cases hx with
            | same hf => simp [flat0] at hf
            | slice hlt hle hok =>
              rename_i c' a'
              have ea := hok.at (by omega)
              subst ea
              refine ⟨.tuple #[], w', ?_, VR.of_flat rfl, e2, e3⟩
              obtain ⟨m, rfl⟩ : ∃ m, n = m + 1 := ⟨n - 1, by omega⟩
              simp [Builtin.clear_, ht, run_underlying hu, run_zero hzz, e1]
            | abs _ hg _ => exact absurd hg hga
          · simp at h
      · simp at h
    · simp at h
  · simp at h
theorem doCopy_sound {P : Program} {s s' : St} {argTypes : Array TypeId} {ty : TypeId} {vs vs' : List Value} {v : Value} {ρ : Nat → PB} {w : World} (h : doCopy P s argTypes vs = some (v, s')) (ho : s'.obl) (hs : Hs s ρ w) (hv : VL (Dm s) ρ vs vs') :
    ∃ v' w', (Builtin.copy_ argTypes ty vs'.toArray).run P w = .ok v' w' ∧ VR (Dm s') ρ v v' ∧ Hs s' ρ w' ∧ Tra s s' ρ ρ w w' := by
  unfold doCopy at h
  split at h
  · rename_i base dLen dCap src
    obtain ⟨d', r, rfl, hd, hr⟩ := hv.inv_cons
    obtain ⟨x', r, rfl, hx, hr⟩ := hr.inv_cons
    rw [hr.inv_nil]
    split at h
    · cases h
    rename_i hab
    split at h
    · rename_i dt hdt
      split at h
      · rename_i elem m hu hm
        split at h
        · rename_i size hsz
          simp only at h
          rw [bind_some] at h
          obtain ⟨⟨l, s1⟩, hr, h⟩ := h
          obtain ⟨k1, k2, k3, k4⟩ := srcCells_like hr
          have main : ∀ (base' : Option Addr) (cap' : Nat) (l' : Array Value) (w' : World), (Builtin.firstCells size (Nat.min m dLen) x').run P w = .ok l' w →
              (match base' with | some a => storeCells a l'.toList | none => pure ()).run P w = .ok () w' →
              (Builtin.copy_ argTypes ty #[.slice base' dLen cap', x']).run P w = .ok (goInt (Nat.min m dLen)) w' := by
            intro base' cap' l' w' e1 e2
            simp only [Builtin.copy_, hdt, List.getElem?_toArray, List.getElem?_cons_zero, List.getElem?_cons_succ, Sem.run_bind, run_underlying hu, Result.andThen_ok, run_lenOf hm hx w, run_sizeOf hsz, e1]
            cases base' with
            | none => simp only [Sem.run_pure, Result.ok.injEq] at e2; simp [e2]
            | some a => simp only [e2, Sem.run_bind, Result.andThen_ok, Sem.run_pure]
          split at h
          · simp only [Option.some.injEq, Prod.mk.injEq] at h; obtain ⟨rfl, rfl⟩ := h
            obtain ⟨l', e1, e2⟩ := srcCells_sound (P := P) hr ho hs hx hm (Nat.min_le_left _ _)
            cases hd with
            | same hf => exact ⟨_, w, main none _ l'.toArray w (e1 w rfl) rfl, .same rfl, k1.holds hs, k1.tra _ _⟩
          · rename_i b o g
            split at h
            · rename_i hemp
              simp only [Option.some.injEq, Prod.mk.injEq] at h; obtain ⟨rfl, rfl⟩ := h
              obtain ⟨l', e1, e2⟩ := srcCells_sound (P := P) hr ho hs hx hm (Nat.min_le_left _ _)
              have hl0 : l = [] := by simpa using hemp
              subst hl0
              have := e2.inv_nil; subst this
              cases hd with
              | same hf => simp [flat0] at hf
              | slice _ _ _ => exact ⟨_, w, main _ _ #[] w (e1 w rfl) rfl, .same rfl, k1.holds hs, k1.tra _ _⟩
              | abs _ hg' _ => exact absurd hg' hab
            · rename_i hemp
              rw [bind_some] at h
              obtain ⟨s2, h2, h⟩ := h
              simp only [Option.some.injEq, Prod.mk.injEq] at h; obtain ⟨rfl, rfl⟩ := h
              obtain ⟨q1, q2, q3, q4, q5, q6⟩ := storeAll_spec h2
              obtain ⟨l', e1, e2⟩ := srcCells_sound (P := P) hr (q6 ho) hs hx hm (Nat.min_le_left _ _)
              obtain ⟨w', f1, f2, f3⟩ := storeAll_sound (P := P) h2 ho (k1.holds hs) (by rw [k1.dm]; exact e2)
              cases hd with
              | same hf => simp [flat0] at hf
              | slice hlt hle hok =>
                have hn0 : Nat.min m dLen ≠ 0 := by
                  intro e
                  apply hemp
                  rw [e] at hr
                  unfold srcCells at hr
                  split at hr
                  · simp at hr; simp [hr.1]
                  · simp at hr; simp [hr.1]
                  · simp only [Option.some.injEq, Prod.mk.injEq] at hr; rw [← hr.1]; simp
                  · simp at hr
                have hmin : Nat.min m dLen ≤ dLen := Nat.min_le_right _ _
                have ea := hok.at (by omega)
                subst ea
                exact ⟨_, w', main _ _ l'.toArray w' (e1 w rfl) f1, .same rfl, f2, k1.thenTra f3⟩
              | abs _ hg' _ => exact absurd hg' hab
        · simp at h
      · simp at h
    · simp at h
  · simp at h
theorem bytes_sound {N : Nat → Prop} {ρ : Nat → PB} (f : Value → ByteArray → Sem (ForInStep ByteArray)) (hf : ∀ n s, f (.int .u8 n) s = pure (ForInStep.yield (s.push (UInt8.ofNat n.toNat)))) : ∀ {l l' : List Value} {bs : List UInt8}, bytesOfV l = some bs → VL N ρ l l' → l' = l ∧ ∀ (P : Program) (w : World) (acc : ByteArray),
    (forIn l acc f).run P w = .ok ⟨acc.data ++ bs.toArray⟩ w
  | [], l', bs, h, hv => by
    simp [bytesOfV] at h; subst h
    exact ⟨hv.inv_nil, fun P w acc => by simp⟩
  | v :: l, l', bs, h, hv => by
    simp only [bytesOfV, bind_some] at h
    obtain ⟨b, hb, r, hr, h⟩ := h
    simp at h; subst h
    obtain ⟨v', r', rfl, hx, hr'⟩ := hv.inv_cons
    unfold byteOfV at hb
    split at hb
    · rename_i n
      simp at hb; subst hb
      have := hx.eq_flat0 rfl; subst this
      obtain ⟨rfl, e⟩ := bytes_sound f hf hr hr'
      refine ⟨rfl, fun P w acc => ?_⟩
      simp only [List.forIn_cons, hf, Sem.run_bind, Sem.run_pure, Result.andThen_ok]
      rw [e]
      congr 2
      simp [ByteArray.push]
    · simp at hb
end Go.Cln
