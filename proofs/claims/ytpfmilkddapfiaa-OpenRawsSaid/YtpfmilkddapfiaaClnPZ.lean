/- A determinate reading of Go's code: noughts behind a row. -/
import Derived.Test.YtpfmilkddapfiaaClnPS
namespace Go.Cln
set_option linter.unusedVariables false
set_option linter.unusedSimpArgs false
set_option linter.deprecated false
set_option linter.unusedVariables false
theorem zeros_cells (n : Nat) : Builtin.zeroCells (Value.int .u8 0).cells n = (((⟨(List.replicate n (0 : UInt8)).toArray⟩ : ByteArray).extract 0 n).data.map fun b => Value.int .u8 b.toNat) := by
  have e1 : ((⟨(List.replicate n (0 : UInt8)).toArray⟩ : ByteArray).extract 0 n).data = (List.replicate n (0 : UInt8)).toArray := by
    simp [ByteArray.extract, ByteArray.copySlice]
  rw [e1]
  apply Array.ext
  · simp [Builtin.zeroCells, Value.cells]
  · intro i h1 h2
    simp [Builtin.zeroCells, Value.cells, Nat.mod_one]
theorem append_zeros_eq {P : Program} {st xt ty elem : TypeId} {i : TypeInfo} {xk k : IntKind} {l : Int} {w : World} {base : Option Addr} {sLen sCap n : Nat}
    (hst : P.underlying st = some (.slice elem)) (hi : P.info? elem = some i) (hz : i.zero = some (.int .u8 0)) (hs1 : i.size = 1) (hxt : P.underlying xt = some (.int xk)) (hstr : P.underlying 9 = some .string)
    (hn : IntKind.i64.wrap l = (n : Int)) (hb1 : (sLen + n) * i.bytes ≤ mostBytes) (hb2 : sLen + n ≤ mostBytes) (argTypes : Array TypeId) (a0 : argTypes[0]? = some st) (a1 : argTypes[1]? = some xt) :
    (Builtin.append_ argTypes ty #[.slice base sLen sCap, .int k l]).run P w = (Builtin.append_ #[st, 9] ty #[.slice base sLen sCap, .string ⟨(List.replicate n (0 : UInt8)).toArray⟩]).run P w := by
  have hneg : ¬ ((n : Int) < 0) := by omega
  have hbig : ¬ ((n : Int) * (i.bytes : Int) > 2 ^ 48) := by
    have h1 : n * i.bytes ≤ (sLen + n) * i.bytes := Nat.mul_le_mul_right _ (by omega)
    have : ((n * i.bytes : Nat) : Int) ≤ (mostBytes : Nat) := Int.ofNat_le.2 (Nat.le_trans h1 hb1)
    rw [Int.natCast_mul] at this
    unfold mostBytes at this; omega
  have hmax : ¬ (((sLen + n : Nat) : Int) > IntKind.i64.max) := by
    have : IntKind.i64.max = 9223372036854775807 := by decide
    rw [this]; unfold mostBytes at hb2; omega
  have hint : (asInt (Value.int k l)).run P w = .ok l w := rfl
  have hlen : ∀ w2 : World, (Builtin.lenOf (.string ⟨(List.replicate n (0 : UInt8)).toArray⟩)).run P w2 = .ok n w2 := fun w2 => by
    have : (⟨(List.replicate n (0 : UInt8)).toArray⟩ : ByteArray).size = n := by simp [ByteArray.size]
    show Result.ok (⟨(List.replicate n (0 : UInt8)).toArray⟩ : ByteArray).size w2 = _
    rw [this]
  have hnew : ∀ w2 : World, (Builtin.firstCells i.size n (.string ⟨(List.replicate n (0 : UInt8)).toArray⟩)).run P w2 = .ok (Builtin.zeroCells (Value.int .u8 0).cells n) w2 := fun w2 => by
    rw [zeros_cells]; rfl
  have hzz : zeroOf P elem = some (.int .u8 0) := by simp [zeroOf, hi, hz]
  have hz0 : n = 0 → Builtin.zeroCells (Value.int .u8 0).cells n = #[] := fun e => by subst e; simp [Builtin.zeroCells]
  simp only [Builtin.append_, a0, a1, List.getElem?_toArray, List.getElem?_cons_zero, List.getElem?_cons_succ, Sem.run_bind, run_underlying hst, Result.andThen_ok, run_sizeOf (by simp [tsize, hi] : tsize P elem = some i.size), run_underlying hxt, run_underlying hstr, Sem.run_pure]
  simp only [if_true, hint, hn, hlen, Sem.run_bind, Result.andThen_ok, hneg, if_false, run_typeInfo hi, hbig, Sem.run_pure, Int.toNat_natCast, Bool.false_eq_true, Bool.not_true, Bool.not_false]
  by_cases hcond : sLen + n ≤ sCap
  · simp only [hcond, if_true, Sem.run_bind, hnew]
    by_cases h0 : n * i.size = 0
    · have h1 : n = 0 := by rw [hs1] at h0; omega
      simp only [h0, if_true, Sem.run_pure, hz0 h1]
    · simp only [h0, if_false, Sem.run_bind, run_zero hzz, Result.andThen_ok, Sem.run_pure]
  · have hk := nextcap_le (by omega : sCap < sLen + n)
    have hfit : ¬ (Builtin.nextslicecap (sLen + n) sCap * i.bytes > 2 ^ 48) := by
      have h2 : Builtin.nextslicecap (sLen + n) sCap * i.bytes ≤ 3 * (sLen + n) * i.bytes := Nat.mul_le_mul_right _ hk
      have h3 : 3 * (sLen + n) * i.bytes = 3 * ((sLen + n) * i.bytes) := by rw [Nat.mul_assoc]
      unfold mostBytes at hb1; omega
    simp only [hcond, if_false, hmax, false_and, true_or, false_or, and_true, hfit, Sem.run_bind, Sem.run_pure, Result.andThen_ok, run_typeInfo hi, run_choose, Question.forced, run_askRoom]
    by_cases h0 : n * i.size = 0
    · have h1 : n = 0 := by rw [hs1] at h0; omega
      simp only [h0, if_true, Sem.run_pure, hnew, hz0 h1]
    · simp only [h0, if_false, Sem.run_bind, run_zero hzz, Result.andThen_ok, Sem.run_pure, hnew]
theorem intsS_zeros (n : Nat) : (intsS ⟨(List.replicate n (0 : UInt8)).toArray⟩).take n = List.replicate n 0 := by
  unfold intsS
  rw [List.take_of_length_le (by simp)]
  simp [List.map_replicate]
theorem softAppZ_app {P : Program} {s s' : St} {ts : Array TypeId} {v : Value} {base : Option Addr} {sLen sCap : Nat} {k : IntKind} {l : Int} (h : softAppZ P s ts [.slice base sLen sCap, .int k l] = some (v, s')) :
    ∃ (st xt elem : TypeId) (i : TypeInfo) (xk : IntKind) (lo : List (Option Bool)), ts[0]? = some st ∧ ts[1]? = some xt ∧ P.underlying st = some (.slice elem) ∧ P.underlying xt = some (.int xk) ∧ P.underlying 9 = some .string ∧ P.info? elem = some i ∧ i.zero = some (.int .u8 0) ∧ i.size = 1 ∧ absB base = false ∧
      softApp0 (fun _ => true) P (({ s with orc := lo } : St).and (0 ≤ IntKind.i64.wrap l ∧ (sLen + (IntKind.i64.wrap l).toNat) * i.bytes ≤ mostBytes ∧ sLen + (IntKind.i64.wrap l).toNat ≤ mostBytes)) #[st, 9] [.slice base sLen sCap, .string ⟨(List.replicate (IntKind.i64.wrap l).toNat (0 : UInt8)).toArray⟩] = some (v, s') := by
  unfold softAppZ at h
  split at h
  · rename_i base' sLen' sCap' k' l' e
    simp only [List.cons.injEq, Value.slice.injEq, Value.int.injEq, and_true] at e
    obtain ⟨⟨rfl, rfl, rfl⟩, rfl, rfl⟩ := e
    split at h
    · rename_i lo horc
      split at h
      · cases h
      rename_i hab
      · split at h
        · rename_i st xt h0 h1
          split at h
          · rename_i elem xk hst hxt hstr
            split at h
            · rename_i i hi he
              split at h
              · rename_i hzz
                split at h
                · rename_i hsz
                  refine ⟨st, xt, elem, i, xk, lo, h0, h1, hst, hxt, hstr, hi, hzz, hsz, by simpa using hab, ?_⟩
                  have hz2 : appendBad .string i (.string ⟨(List.replicate (IntKind.i64.wrap l).toNat (0 : UInt8)).toArray⟩) = false := by
                    simp [appendBad, isIntD, zeroBad, hzz, hsz, isStr, Value.cells]
                  have hsz2 : (⟨(List.replicate (IntKind.i64.wrap l).toNat (0 : UInt8)).toArray⟩ : ByteArray).size = (IntKind.i64.wrap l).toNat := by simp [ByteArray.size]
                  unfold softApp0
                  simp only [hab, Bool.false_eq_true, if_false, if_true, List.getElem?_toArray, List.getElem?_cons_zero, List.getElem?_cons_succ, hst, hi, hstr, he, lenV, hz2, hsz, bne_self_eq_false, Bool.or_false, softSrc, Option.bind_some, hsz2, intsS_zeros]
                  exact h
                · cases h
              · cases h
            · cases h
          · cases h
        · cases h
    · cases h
  · rename_i hne
    exact absurd rfl (hne _ _ _ _ _)
theorem softAppZ_obl {P : Program} {s s' : St} {ts : Array TypeId} {vs : List Value} {v : Value} (h : softAppZ P s ts vs = some (v, s')) : s'.obl → s.obl := by
  have hk : ∃ base sLen sCap k l, vs = [.slice base sLen sCap, .int k l] := by
    unfold softAppZ at h
    split at h
    · exact ⟨_, _, _, _, _, rfl⟩
    · cases h
  obtain ⟨base, sLen, sCap, k, l, rfl⟩ := hk
  obtain ⟨st, xt, elem, i, xk, lo, _, _, _, _, _, _, _, _, _, hs⟩ := softAppZ_app h
  exact fun ho => (softApp0_obl hs ho : _ ∧ _).1
theorem softAppZ_sound {P : Program} {s s' : St} {ts : Array TypeId} {ty : TypeId} {vs vs' : List Value} {v : Value} {ρ : Nat → PB} {w : World} (h : softAppZ P s ts vs = some (v, s')) (ho : s'.obl) (hs : Hs s ρ w) (hv : VL (Dm s) ρ vs vs') :
    ∃ v' w' ρ', (Builtin.append_ ts ty vs'.toArray).run P w = .ok v' w' ∧ VR (Dm s') ρ' v v' ∧ Hs s' ρ' w' ∧ Tra s s' ρ ρ' w w' := by
  have hk : ∃ base sLen sCap k l, vs = [.slice base sLen sCap, .int k l] := by
    unfold softAppZ at h
    split at h
    · exact ⟨_, _, _, _, _, rfl⟩
    · cases h
  obtain ⟨base, sLen, sCap, k, l, rfl⟩ := hk
  obtain ⟨st, xt, elem, i, xk, lo, h0, h1, hst, hxt, hstr, hi, hzz, hsz, hab, hsA⟩ := softAppZ_app h
  obtain ⟨_, o1, o2, o3⟩ := softApp0_obl hsA ho
  obtain ⟨b', r1, rfl, hb, hr⟩ := hv.inv_cons
  obtain ⟨x', r2, rfl, hx, hr2⟩ := hr.inv_cons
  rw [hr2.inv_nil]
  have := hx.eq_flat0 rfl; subst this
  have hbs : ∃ base' sCap', b' = .slice base' sLen sCap' := by
    cases hb with
    | same _ => exact ⟨_, _, rfl⟩
    | slice _ _ _ => exact ⟨_, _, rfl⟩
    | abs _ hg _ => exact absurd (hg.symm.trans hab) (by decide)
  obtain ⟨base', sCap', rfl⟩ := hbs
  have lk : Like s (({ s with orc := lo } : St).and (0 ≤ IntKind.i64.wrap l ∧ (sLen + (IntKind.i64.wrap l).toNat) * i.bytes ≤ mostBytes ∧ sLen + (IntKind.i64.wrap l).toNat ≤ mostBytes)) := ⟨rfl, rfl, rfl, rfl, rfl⟩
  obtain ⟨v', w', ρ', g0, g1, g2, g3⟩ := softApp0_sound (ty := ty) hsA ho (lk.holds hs) (VL.cons hb (VL.cons (VR.same rfl) VL.nil))
  refine ⟨v', w', ρ', ?_, g1, g2, lk.thenTra g3⟩
  rw [← g0]
  exact append_zeros_eq hst hi hzz hsz hxt hstr (by omega) o2 o3 ts h0 h1
end Go.Cln
