/- Read off the code by the clean reading. -/
import Derived.Test.YteknepfcbpoooaaClnTa
import Derived.Test.YteknepfcbpoooaaClnQd
set_option linter.unusedVariables false
set_option linter.unusedSimpArgs false
set_option linter.deprecated false
set_option maxRecDepth 100000
namespace Go.Cln
theorem CallOk.low {P : Program} {f : FuncId} {args : List Value} {s : St} {v : Value} (h : CallOk P f args (lowE s) v (lowE s)) : CallOk P f args s v s := by
  intro ho n ρ w args' hs ha
  have l1 : Like s s := ⟨rfl, rfl, rfl, rfl, rfl⟩
  refine callsIn_wide.2 ((callsIn_wide.1 (h trivial n ρ w args' ((lowE_sub s).hs hs) ha)).mono ?_)
  rintro e w' ⟨v', ρ', rfl, g1, g2, g3⟩
  exact ⟨v', ρ', rfl, g1, (back_sub l1).hs g2, g3.low (back_sub l1) fun _ _ => rfl⟩
end Go.Cln
namespace Go.Proofs.Yteknepfcbpoooaa
open Go.ChangeShapes Go.WideShapes Go.ChangeAt Go.RowKit Go.Cln
namespace tb
open hc hx hy hz
set_option linter.unusedVariables false
noncomputable section
theorem intAt_ch (W : List Int) : intAt (W.map (Value.int .u8)) = ch W := by
  funext j
  unfold ch intAt
  rw [getL_eq, List.getD_eq_getElem?_getD, List.getElem?_map, List.getD_eq_getElem?_getD]
  cases W[j]? with
  | none => rfl
  | some x => rfl
theorem block_ok (s : sw.N5) (W : List Int) (g : Option Nat) (c : Nat) (h : W.length = 64) (hg : isAbs g = false) :
    CallOk Try.prog 15 [.agg s.row.toArray, .slice (some ⟨0, 0, g⟩) 64 c] (smSt 1 (hB W) []) (.agg (sw.blkR s (ch W)).row.toArray) (smSt 1 (hB W) []) := by
  refine CallOk.low ?_
  have hb : (lowE (smSt 1 (hB W) [])).heap.get 0 = some (.cells (.lit (W.map (Value.int .u8))) 5) := by
    simp only [lowE, Tr.get_map]
    show ((Tr.ofL (hB W)).get 0).map toLit = _
    rw [ofL_get (by simp [hB])]; rfl
  have hc : (Given.reads Given.nothing sw.FSq).call 15 [.agg s.row.toArray, .slice (some ⟨0, 0, g⟩) 64 c] (lowE (smSt 1 (hB W) [])) = some (.agg (sw.blkR s (ch W)).row.toArray, lowE (smSt 1 (hB W) [])) := by
    have hf : sw.FSq 15 [.agg s.row.toArray, .slice (some ⟨0, 0, g⟩) 64 c] (lowE (smSt 1 (hB W) [])) = some (.agg (sw.blkR s (ch W)).row.toArray) := by
      unfold sw.FSq
      simp only [beq_self_eq_true, if_true]
      rw [if_pos ⟨⟨trivial, hg⟩, rfl, rfl⟩, hb]
      have e : ((W.map (Value.int .u8)).drop 0).take 64 = W.map (Value.int .u8) := by rw [List.drop_zero, List.take_of_length_le (by simp; omega)]
      have hk : (W.map (Value.int .u8)).all (isKind .u8) = true := by
        rw [List.all_eq_true]
        intro x hx
        obtain ⟨a, _, rfl⟩ := List.mem_map.1 hx
        rfl
      simp only [e]
      rw [if_pos ⟨by simp; omega, hk⟩, intAt_ch]
      rfl
    show (match sw.FSq 15 _ _ with | some v => some (v, _) | none => _) = _
    rw [hf]
  exact (sw.FS_ok (GivenOk.nothing _)).call hc
def F15 (R : BF) (f : FuncId) (args : List Value) (s : St) : Option Inst := if f == 15 then match args with
  | [.agg st, .slice (some ⟨b, o, g⟩) n c] => match s.heap.get b with
    | some (.cells (.ints .u8 L) _) => if (st.toList.length = 5 ∧ st.toList.all (isKind .u32) = true) ∧ isAbs g = false then
        some ⟨[(b, o)], 1, hB ((L.drop o).take 64), [.agg st, .slice (some ⟨0, 0, g⟩) n c], .agg (R (sw.n5L st.toList) (ch ((L.drop o).take 64))).row.toArray, hB ((L.drop o).take 64), R = sw.blkR ∧ n = 64 ∧ ((L.drop o).take 64).length = 64⟩
      else none
    | _ => none
  | _ => none else none
theorem mapL_flat {l : List Value} {ν δ : Nat → Nat} (h : l.all flat0 = true) : l.map (mvA (mvL ν δ) ν δ) = l := by
  have : ∀ x ∈ l, mvA (mvL ν δ) ν δ x = x := fun x hx => by
    have hf := List.all_eq_true.1 h x hx
    cases x with
    | func f a b =>
      cases f with
      | func f =>
        simp only [flat0, Bool.and_eq_true, List.isEmpty_iff] at hf
        obtain ⟨a⟩ := a; obtain ⟨b⟩ := b
        simp only at hf
        obtain ⟨rfl, rfl⟩ := hf; rfl
      | _ => simp [flat0] at hf
    | pointer a => cases a <;> first | rfl | (simp [flat0] at hf)
    | slice a n c => cases a <;> first | rfl | (simp [flat0] at hf)
    | map a => cases a <;> first | rfl | (simp [flat0] at hf)
    | agg => simp [flat0] at hf
    | tuple => simp [flat0] at hf
    | _ => rfl
  conv => rhs; rw [← List.map_id l]
  exact List.map_congr_left this
theorem F15_ok (R : BF) (f : FuncId) (args : List Value) (s : St) (i : Inst) (h : F15 R f args s = some i) : Fits s i args ∧ (i.ask → CallOk Try.prog f i.args i.s0 i.val i.s1) := by
  unfold F15 at h
  split at h
  · rename_i hf
    have hf' : f = 15 := by simpa using hf
    subst hf'
    split at h
    · rename_i st b o g n c
      split at h
      · rename_i L tb hb
        split at h
        · rename_i hc
          obtain ⟨⟨h1, h2⟩, hgA⟩ := hc
          cases h
          have e1 : st = (sw.n5L st.toList).row.toArray := by rw [sw.n5L_row h1 h2]
          refine ⟨⟨?_, fun j pp ob k1 k2 => ?_⟩, fun ha => ?_⟩
          · have e2 : ∀ (ν δ : Nat → Nat), mv ν δ (.agg st) = .agg st := fun ν δ => by
              show Value.agg (st.toList.map _).toArray = _
              rw [mapL_flat (by rw [e1]; rfl)]
            show [Value.agg st, .slice (some ⟨b, o, g⟩) n c] = [mv _ _ (.agg st), if isAbs g = true then .slice (some ⟨0, 0, g⟩) n c else .slice (some ⟨b, addO o 0, g⟩) n c]
            rw [if_neg (by rw [hgA]; exact Bool.false_ne_true), e2, addO_eq]; rfl
          · rcases j with _ | j
            · simp only [List.getElem?_cons_zero, Option.some.injEq] at k1
              subst k1
              simp only [hB, List.getElem?_cons_zero, Option.some.injEq] at k2
              subst k2
              exact ⟨_, hb, fit_ints⟩
            · simp at k1
          · obtain ⟨rfl, rfl, q3⟩ := ha
            have := block_ok (sw.n5L st.toList) ((L.drop o).take 64) g c q3 hgA
            rw [← e1] at this
            exact this
        · cases h
      · cases h
    · cases h
  · cases h
end
end tb
end Go.Proofs.Yteknepfcbpoooaa
namespace Go.Proofs.Yteknepfcbpoooaa
open Go.ChangeShapes Go.WideShapes Go.ChangeAt Go.RowKit Go.Cln
namespace tb
open hc hx hy hz
set_option linter.unusedVariables false
noncomputable section
noncomputable def body : Code := loopB Try.prog 12 0
noncomputable def H (L X : List Int) (s : sw.N5) : Nat → Option Ob := fun i => match i with
  | 0 => some (.cells (.ints .u8 L) 5)
  | 1 => some (.cells (.lit (List.replicate 20 (.int .u8 0))) 24)
  | 22 => some (.cells (.ints .u8 X) 5)
  | 24 => some (.cells (.lit s.row) 31)
  | _ => none
noncomputable def hd (n c : Nat) (m : Nat) (i : Int) : List Value := [.slice (some ⟨0, 0, none⟩) n c, undef, P0 1 0, .slice (some ⟨22, 0, some 1⟩) m m, P0 24 0, .int .i64 i, undef, undef] ++ J 7 ++ [.agg F0.row.toArray]
noncomputable def E (L X : List Int) (n c : Nat) (m : Nat) (s : sw.N5) (i : Int) : St := ⟨hd n c m i ++ U 32, [], Tr.rebuild (H L X s) 25, 25, 1, [], fun _ => false, True, []⟩
noncomputable def R (L X : List Int) (n c : Nat) (m : Nat) (s : sw.N5) (i : Int) : St := ⟨hd n c m i ++ (J 6 ++ .agg (J 5).toArray :: (J 5 ++ .agg (J 5).toArray :: U 19)), [], Tr.rebuild (H L X s) 25, 25, 1, [], fun _ => false, True, []⟩
noncomputable def i' (i : Int) : Int := IntKind.i64.wrap (i + 64)
noncomputable def ww (X : List Int) (i : Int) : List Int := (X.drop (0 + i.toNat * 1)).take 64
noncomputable def pC (B : BF) (X : List Int) (m : Nat) (i : Int) : Prop := ((True ∧ decide (i < (m : Int)) = true) ∧ (0 ≤ i' i ∧ i' i ≤ (m : Int) ∧ 0 ≤ i ∧ i ≤ i' i)) ∧ (B = sw.blkR ∧ (i' i).toNat - i.toNat = 64 ∧ (ww X i).length = 64)
noncomputable def KL (B : BF) : Given := Given.frames Given.nothing (F15 B)
theorem KL_ok (B : BF) : GivenOk Try.prog (KL B) := (GivenOk.nothing _).frames (F15_ok B)
theorem kE (B : BF) (L X : List Int) (n c : Nat) (m : Nat) (s : sw.N5) (i : Int) (rd : Option Nat) : ((mk Try.prog (KL B) 200).code 12 rd body { E L X n c m s i with obl := True, orc := [some true, some true] }).map (fun r => (r.1, r.2.obl, seenIn r.2 (R L X n c m (B s (ch (ww X i))) (i' i)) [])) =
    some (.normal, pC B X m i, seenAs (R L X n c m (B s (ch (ww X i))) (i' i)) [] 25) := by kernel_rfl
theorem kR (B : BF) (L X : List Int) (n c : Nat) (m : Nat) (s : sw.N5) (i : Int) (rd : Option Nat) : ((mk Try.prog (KL B) 200).code 12 rd body { R L X n c m s i with obl := True, orc := [some true, some true] }).map (fun r => (r.1, r.2.obl, seenIn r.2 (R L X n c m (B s (ch (ww X i))) (i' i)) [])) =
    some (.normal, pC B X m i, seenAs (R L X n c m (B s (ch (ww X i))) (i' i)) [] 25) := by kernel_rfl
theorem kX (B : BF) (L X : List Int) (n c : Nat) (m : Nat) (s : sw.N5) (i : Int) (rd : Option Nat) : ((mk Try.prog (KL B) 200).code 12 rd body { R L X n c m s i with obl := True, orc := [some false] }).map (fun r => (r.1, r.2.obl, seenIn r.2 (R L X n c m s i) [])) =
    some (.exit 0, True ∧ decide (i < (m : Int)) = false, seenAs (R L X n c m s i) [] 25) := by kernel_rfl
theorem sE (B : BF) (L X : List Int) (n c : Nat) (m : Nat) (s : sw.N5) (i : Int) (rd : Option Nat) (hp : pC B X m i) : Step Try.prog rd (E L X n c m s i) body (E L X n c m s i) (fun e t => e = .normal ∧ t = R L X n c m (B s (ch (ww X i))) (i' i)) :=
  Step.std sw.pg (KL_ok B) (kE B L X n c m s i rd) hp (Nat.le_refl _) (g := H L X (B s (ch (ww X i)))) rfl (by kernel_rfl)
theorem sR (B : BF) (L X : List Int) (n c : Nat) (m : Nat) (s : sw.N5) (i : Int) (s0 : sw.N5) (i0 : Int) (rd : Option Nat) (hp : pC B X m i) : Step Try.prog rd (E L X n c m s0 i0) body (R L X n c m s i) (fun e t => e = .normal ∧ t = R L X n c m (B s (ch (ww X i))) (i' i)) :=
  Step.std sw.pg (KL_ok B) (kR B L X n c m s i rd) hp (Nat.le_refl _) (g := H L X (B s (ch (ww X i)))) rfl (by kernel_rfl)
theorem sX (B : BF) (L X : List Int) (n c : Nat) (m : Nat) (s : sw.N5) (i : Int) (s0 : sw.N5) (i0 : Int) (rd : Option Nat) (hp : True ∧ decide (i < (m : Int)) = false) : Step Try.prog rd (E L X n c m s0 i0) body (R L X n c m s i) (fun e t => e = .exit 0 ∧ t = R L X n c m s i) :=
  Step.std sw.pg (KL_ok B) (kX B L X n c m s i rd) hp (Nat.le_refl _) (g := H L X s) rfl (by kernel_rfl)
theorem loopF (L X : List Int) (n c : Nat) (m q : Nat) (s : sw.N5) (hm : m = X.length) (hq : m = 64 * q) (h1 : 1 ≤ q) (hs : q ≤ 1000000000) (rd : Option Nat) :
    CodeOk Try.prog rd (.loop body) (E L X n c m s 0) (.exit 0) (R L X n c m (fold sw.blkR s q X) ((m : Nat) : Int)) := by
  have wi : ∀ j : Nat, j < q → i' ((64 * j : Nat) : Int) = ((64 * (j + 1) : Nat) : Int) := fun j hj => by unfold i'; rw [IntKind.wrap_i64]; omega
  have we : ∀ j : Nat, ww X ((64 * j : Nat) : Int) = (X.drop (64 * j)).take 64 := fun j => by unfold ww; rw [Int.toNat_natCast, Nat.mul_one, Nat.zero_add]
  have pc : ∀ j : Nat, j < q → pC sw.blkR X m ((64 * j : Nat) : Int) := fun j hj => by
    refine ⟨⟨⟨trivial, by rw [decide_eq_true_eq]; omega⟩, ?_⟩, rfl, ?_, ?_⟩
    · rw [wi j hj]; omega
    · rw [wi j hj]; omega
    · rw [we, List.length_take, List.length_drop]; omega
  have fl : ∀ j : Nat, sw.blkR (fold sw.blkR s j X) (ch (ww X ((64 * j : Nat) : Int))) = fold sw.blkR s (j + 1) X := fun j => by
    rw [fold_last, we]; rfl
  refine CodeOk.of_step (Step.loop (fun f t => (f = q ∧ t = E L X n c m s 0) ∨ ∃ j, 1 ≤ j ∧ j ≤ q ∧ f = q - j ∧ t = R L X n c m (fold sw.blkR s j X) ((64 * j : Nat) : Int)) ?_ q _ (.inl ⟨rfl, rfl⟩))
  rintro f t (⟨rfl, rfl⟩ | ⟨j, g1, g2, rfl, rfl⟩)
  · refine (sE sw.blkR L X n c m s ((64 * 0 : Nat) : Int) rd (pc 0 (by omega))).mono ?_
    rintro e t ⟨rfl, rfl⟩
    exact .inl ⟨rfl, f - 1, by omega, .inr ⟨1, by omega, h1, rfl, by rw [wi 0 (by omega), ← fl 0]; rfl⟩⟩
  · by_cases hj : j = q
    · subst hj
      refine (sX sw.blkR L X n c m (fold sw.blkR s j X) ((64 * j : Nat) : Int) s 0 rd ⟨trivial, by rw [decide_eq_false_iff_not]; omega⟩).mono ?_
      rintro e t ⟨rfl, rfl⟩
      exact .inr ⟨(by intro x; cases x), rfl, by rw [hq]⟩
    · refine (sR sw.blkR L X n c m (fold sw.blkR s j X) ((64 * j : Nat) : Int) s 0 rd (pc j (by omega))).mono ?_
      rintro e t ⟨rfl, rfl⟩
      exact .inl ⟨rfl, q - (j + 1), by omega, .inr ⟨j + 1, by omega, by omega, rfl, by rw [wi j (by omega), fl]⟩⟩
end
end tb
end Go.Proofs.Yteknepfcbpoooaa
namespace Go.Proofs.Yteknepfcbpoooaa
open Go.ChangeShapes Go.WideShapes Go.ChangeAt Go.RowKit Go.Cln
namespace tb
open hc hx hy hz
set_option linter.unusedVariables false
noncomputable section
noncomputable def ask12 (S1 : St) (f : FuncId) (c : Code) (S : St) : Option Ask2 := if f == 12 then match getL S.tmps 6 with
  | .tuple _ => some ⟨⟨[8, 9, 10, 11, 12, 13, 14], [], [], [2, 21, 23]⟩, .exit 0, fun _ => S1⟩
  | _ => none else none
noncomputable def rb4 (w : Int) (j : Nat) : Int := IntKind.u8.wrap ((w.fdiv (2 ^ (8 * j))).tmod 256)
noncomputable def be4R (w : Int) : List Int := [rb4 w 3, rb4 w 2, rb4 w 1, rb4 w 0]
noncomputable def outR (X : sw.N5) : Value := .agg (vI (be4R X.a ++ (be4R X.b ++ (be4R X.c ++ (be4R X.d ++ be4R X.e))))).toArray
noncomputable def XX (L : List Int) (n : Nat) : List Int := ((((L.drop 0).take n)).drop 0).take (0 + n) ++ ((T n).drop 0).take (tl n)
noncomputable def mX (n : Nat) : Nat := 0 + n + tl n
noncomputable def K12 (S1 : St) : Given := Given.frames (Given.asking2 Given.nothing Try.prog (ask12 S1)) ta.F20
theorem K12_ok (S1 : St) : GivenOk Try.prog (K12 S1) := ((GivenOk.nothing _).asking2 (ask12 S1)).frames ta.F20_ok
noncomputable def r12 (L : List Int) (n c : Nat) (S1 : St) : Option (Value × St) := (mk Try.prog (K12 S1) 300).call 12 [.slice (some ⟨0, 0, none⟩) n c] (smSt 1 (hB L) [some false, some false])
noncomputable def S12 (L : List Int) (n c : Nat) (s : sw.N5) : St := R L (XX L n) n c (mX n) s ((mX n : Nat) : Int)
noncomputable def p12 (L : List Int) (n c : Nat) (s : sw.N5) : Prop := ((((((True ∧ decide (0 + n ≤ 0) = false) ∧ (0 + n ≤ L.length ∧ 0 + 0 ≤ 0 ∧ (0 + n) * 1 ≤ mostBytes ∧ 0 + n ≤ mostBytes)) ∧ n ≤ 1152921504606846976) ∧ decide (0 + n + tl n ≤ 0 + n) = false) ∧
  (0 + tl n ≤ (T n).length ∧ 0 + (0 + n) ≤ ((L.drop 0).take n).length ∧ (0 + n + tl n) * 1 ≤ mostBytes ∧ 0 + n + tl n ≤ mostBytes)) ∧ ∀ rd, CodeOk Try.prog rd (.loop body) (E L (XX L n) n c (mX n) F0 0) (.exit 0) (S12 L n c s))
end
end tb
end Go.Proofs.Yteknepfcbpoooaa
namespace Go.Proofs.Yteknepfcbpoooaa
open Go.ChangeShapes Go.WideShapes Go.ChangeAt Go.RowKit Go.Cln
namespace tb
open hc hx hy hz
set_option linter.unusedVariables false
noncomputable section
noncomputable def out12 (L : List Int) : List (Option Ob) := some (Ob.cells (.ints .u8 L) 5) :: List.replicate 25 none
theorem run12 (L : List Int) (n c : Nat) (s : sw.N5) : (r12 L n c (S12 L n c s)).map (fun r => (r.1, r.2.obl, r.2.next, keepL (true :: List.replicate 25 false) r.2.heap.get 0)) =
    some (outR s, p12 L n c s, (out12 L).length, out12 L) := by kernel_rfl
theorem rb4_eq {w : Int} (h : 0 ≤ w) (j : Nat) : rb4 w j = by8 w j := by
  have key : ∀ j, sh8 w j = w / 2 ^ (8 * j) := by
    intro j
    induction j with
    | zero => show w = _; omega
    | succ j ih =>
      show (sh8 w j).fdiv (2 ^ 8) = _
      rw [ih, Int.fdiv_eq_ediv_of_nonneg _ (by decide), Int.ediv_ediv_of_nonneg (by exact Int.pow_nonneg (by decide)), ← Int.pow_add]
      congr 1
  unfold rb4 by8
  rw [key, Int.fdiv_eq_ediv_of_nonneg _ (Int.pow_nonneg (by decide))]
  have hnn : 0 ≤ w / 2 ^ (8 * j) := Int.ediv_nonneg h (Int.pow_nonneg (by decide))
  rw [Int.tmod_eq_emod_of_nonneg hnn]
  generalize w / 2 ^ (8 * j) = x at hnn
  simp only [IntKind.wrap_u8]
  omega
theorem be4_eq {w : Int} (h : 0 ≤ w) : be4R w = be4 w := by unfold be4R be4; rw [rb4_eq h, rb4_eq h, rb4_eq h, rb4_eq h]
theorem out_eq {X : sw.N5} (h : sw.ok5 X) : outR X = outV X := by
  obtain ⟨h1, h2, h3, h4, h5⟩ := h
  unfold outR outV ot1
  rw [be4_eq h1.1, be4_eq h2.1, be4_eq h3.1, be4_eq h4.1, be4_eq h5.1]
theorem shaN_ok (M : List Int) : sw.ok5 (shaN M) := fold_ok blkR_ok F0_ok _ _
theorem sumR (L : List Int) (n c : Nat) (hn : n = L.length) (h0 : 0 < n) (h : n ≤ 1000000000) :
    CallOk Try.prog 12 [.slice (some ⟨0, 0, none⟩) n c] (smSt 1 (hB L) []) (outV (shaN L)) (smSt 1 (out12 L) []) := by
  obtain ⟨t1, t2, t3⟩ := tl_b n
  have hT := T_len n
  have ht : (L.drop 0).take n = L := by rw [List.drop_zero, hn, List.take_length]
  have eX : XX L n = L ++ T n := by
    unfold XX
    rw [ht, List.drop_zero, List.drop_zero, List.take_of_length_le (by omega), List.take_of_length_le (by omega)]
  have eq : (L.length + tl L.length) / 64 = (n + tl n) / 64 := by rw [← hn]
  have hp : p12 L n c (shaN L) := by
    refine ⟨⟨⟨⟨⟨⟨trivial, by rw [decide_eq_false_iff_not]; omega⟩, ?_⟩, by omega⟩, by rw [decide_eq_false_iff_not]; omega⟩, ?_⟩, fun rd => ?_⟩
    · unfold mostBytes; omega
    · rw [ht]; unfold mostBytes; omega
    · have := loopF L (XX L n) n c (mX n) ((n + tl n) / 64) F0 (by rw [eX, List.length_append, hT]; unfold mX; omega) (by unfold mX; omega) (by omega) (by omega) rd
      rw [eX] at this
      unfold S12 shaN
      rw [eX, eq, ← hn]
      exact this
  have := frame_by sw.pg (K12_ok _) _ (run12 L n c (shaN L)) hp (by rfl) rfl
  rw [out_eq (shaN_ok L)] at this
  exact this
def F12 (D : List Int → sw.N5) (f : FuncId) (args : List Value) (s : St) : Option Inst := if f == 12 then match args with
  | [.slice (some ⟨b, o, g⟩) n c] => match s.heap.get b with
    | some (.cells (.ints .u8 L) _) => if gOk g = true then some ⟨[(b, o)], 1, hB ((L.drop o).take n), [.slice (some ⟨0, 0, g⟩) n c], outV (D ((L.drop o).take n)), out12 ((L.drop o).take n), D = shaN ∧ n = ((L.drop o).take n).length ∧ 0 < n ∧ n ≤ 1000000000⟩ else none
    | _ => none
  | _ => none else none
theorem fit1 {s : St} {b o : Nat} {L : List Int} {tb : TypeId} {g : Option Nat} {n c : Nat} {i : Inst} (hb : s.heap.get b = some (.cells (.ints .u8 L) tb)) (hw : i.win = [(b, o)]) (hh : i.heap = hB ((L.drop o).take n)) (ha : i.args = [.slice (some ⟨0, 0, g⟩) n c]) (hg : gOk g = true) :
    Fits s i [.slice (some ⟨b, o, g⟩) n c] := by
  refine ⟨?_, fun j pp ob h1 h2 => ?_⟩
  · rw [ha]
    have e1 : i.nu s.next 0 = b := by unfold Inst.nu; rw [hw]; rfl
    have e2 : i.del 0 = o := by unfold Inst.del; rw [hw]; rfl
    have e : [Value.slice (some ⟨b, o, g⟩) n c] = [Value.slice (some ⟨i.nu s.next 0, addO (i.del 0) 0, g⟩) n c] := by rw [e1, e2, addO_eq]; rfl
    rcases gOk_eq hg with rfl | rfl <;> exact e
  · rw [hw] at h1
    rw [hh] at h2
    rcases j with _ | j
    · simp only [List.getElem?_cons_zero, Option.some.injEq] at h1
      subst h1
      simp only [hB, List.getElem?_cons_zero, Option.some.injEq] at h2
      subst h2
      exact ⟨_, hb, fit_ints⟩
    · simp at h1
theorem F12_ok (D : List Int → sw.N5) (f : FuncId) (args : List Value) (s : St) (i : Inst) (h : F12 D f args s = some i) : Fits s i args ∧ (i.ask → CallOk Try.prog f i.args i.s0 i.val i.s1) := by
  unfold F12 at h
  split at h
  · rename_i hf
    have hf' : f = 12 := by simpa using hf
    subst hf'
    split at h
    · rename_i b o g n c
      split at h
      · rename_i L tb hb
        split at h
        · rename_i hg
          cases h
          refine ⟨fit1 hb rfl rfl rfl hg, fun ha => ?_⟩
          obtain ⟨rfl, q1, q2, q3⟩ := ha
          rcases gOk_eq hg with rfl | rfl
          · exact sumR _ n c q1 q2 q3
          · exact CallOk.grow [] [] (fun c _ => sumR _ n c q1 q2 q3) c
        · cases h
      · cases h
    · cases h
  · cases h
def F11 (D : List Int → sw.N5) (f : FuncId) (args : List Value) (s : St) : Option Inst := if f == 11 then match args with
  | [.slice (some ⟨b, o, g⟩) n c] => match s.heap.get b with
    | some (.cells (.ints .u8 L) _) => if gOk g = true then some ⟨[(b, o)], 1, hB ((L.drop o).take n), [.slice (some ⟨0, 0, g⟩) n c], outV (D ((L.drop o).take n)), out11 ((L.drop o).take n), D = shaN ∧ Byt ((L.drop o).take n) ∧ n = ((L.drop o).take n).length ∧ n ≤ c ∧ n ≤ 1000000000⟩ else none
    | _ => none
  | _ => none else none
end
end tb
end Go.Proofs.Yteknepfcbpoooaa
