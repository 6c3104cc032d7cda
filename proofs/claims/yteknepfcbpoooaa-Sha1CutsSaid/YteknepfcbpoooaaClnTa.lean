/- Read off the code by the clean reading. -/
import Derived.Test.YteknepfcbpoooaaClnSa
import Derived.Test.YteknepfcbpoooaaClnQc
set_option linter.unusedVariables false
set_option linter.unusedSimpArgs false
set_option linter.deprecated false
set_option maxRecDepth 100000
namespace Go.Proofs.Yteknepfcbpoooaa
open Go.ChangeShapes Go.WideShapes Go.ChangeAt Go.RowKit Go.Cln
namespace ta
open hc hx hy hz
set_option linter.unusedVariables false
noncomputable section
noncomputable def body : Code := loopB Try.prog 20 0
noncomputable def vs (b : Nat) (g : Option Nat) (m : Nat) : Value := .slice (some ⟨b, 0, g⟩) m m
noncomputable def EH : Nat → Option Ob := fun i => match i with
  | 0 => some (.cells (.lit [.int .u8 128]) 5)
  | _ => none
noncomputable def E (n : Int) : St := ⟨[.int .i64 n, undef, .slice none 0 0, vs 0 none 1, undef, undef, vs 0 none 1] ++ U 27, [], Tr.rebuild EH 1, 1, 0, [], fun _ => false, True, []⟩
noncomputable def RH (X : List Int) : Nat → Option Ob := fun i => match i with
  | 0 => some (.cells (.lit [.int .u8 128]) 5)
  | 1 => some (.cells (.ints .u8 X) 5)
  | _ => none
noncomputable def R (n : Int) (X : List Int) (m : Nat) : St := ⟨[.int .i64 n, undef, .slice none 0 0, vs 1 (some 1) m, undef, undef, vs 0 none 1, .int .i64 n, junk, junk, junk, junk, .bool true, junk, junk, junk] ++ U 18, [], Tr.rebuild (RH X) 2, 2, 0, [], fun _ => false, True, []⟩
noncomputable def Z (n : Int) (X : List Int) (m : Nat) : St := ⟨[.int .i64 n, undef, .slice none 0 0, vs 1 (some 1) m, undef, undef, vs 0 none 1, .int .i64 n, junk, junk, junk, junk, .bool false, junk, junk, junk] ++ U 18, [], Tr.rebuild (RH X) 2, 2, 0, [], fun _ => false, True, []⟩
noncomputable def cd (n : Int) (m : Nat) (e : Bool) : Prop := True ∧ ((IntKind.i64.wrap (n + (m : Int))).tmod 64 != 56) = e
noncomputable def pR (n : Int) (X : List Int) (m : Nat) : Prop := (cd n m true ∧ decide (m + 1 ≤ m) = false) ∧ (0 + 1 ≤ 1 ∧ 0 + m ≤ X.length ∧ (m + 1) * 1 ≤ mostBytes ∧ m + 1 ≤ mostBytes)
theorem kE (n : Int) (rd : Option Nat) : ((mk Try.prog Given.nothing 200).code 20 rd body { E n with obl := True, orc := [some true] }).map (fun r => (r.1, r.2.obl, seenIn r.2 (R n [128, 0] 2) [0, 2])) = some (.normal, cd n 1 true, seenAs (R n [128, 0] 2) [0, 2] 3) := by kernel_rfl
theorem kR (n : Int) (X : List Int) (m : Nat) (rd : Option Nat) : ((mk Try.prog Given.nothing 200).code 20 rd body { R n X m with obl := True, orc := [some true, some false] }).map (fun r => (r.1, r.2.obl, seenIn r.2 (R n ((X.drop 0).take m ++ [0]) (m + 1)) [0, 3])) = some (.normal, pR n X m, seenAs (R n ((X.drop 0).take m ++ [0]) (m + 1)) [0, 3] 4) := by kernel_rfl
theorem kZ (n : Int) (X : List Int) (m : Nat) (rd : Option Nat) : ((mk Try.prog Given.nothing 200).code 20 rd body { R n X m with obl := True, orc := [some false] }).map (fun r => (r.1, r.2.obl, seenIn r.2 (Z n X m) [])) = some (.exit 0, cd n m false, seenAs (Z n X m) [] 2) := by kernel_rfl
theorem sE (n : Int) (rd : Option Nat) (hp : cd n 1 true) : Step Try.prog rd (E n) body (E n) (fun e t => e = .normal ∧ t = R n [128, 0] 2) :=
  Step.std sw.pg (GivenOk.nothing _) (kE n rd) hp (Nat.le_refl _) (g := RH [128, 0]) rfl (by kernel_rfl)
theorem sR (n : Int) (X : List Int) (m : Nat) (rd : Option Nat) (hp : pR n X m) : Step Try.prog rd (E n) body (R n X m) (fun e t => e = .normal ∧ t = R n ((X.drop 0).take m ++ [0]) (m + 1)) :=
  Step.std sw.pg (GivenOk.nothing _) (kR n X m rd) hp (show 1 ≤ 2 by decide) (g := RH ((X.drop 0).take m ++ [0])) rfl (by kernel_rfl)
theorem sZ (n : Int) (X : List Int) (m : Nat) (rd : Option Nat) (hp : cd n m false) : Step Try.prog rd (E n) body (R n X m) (fun e t => e = .exit 0 ∧ t = Z n X m) :=
  Step.std sw.pg (GivenOk.nothing _) (kZ n X m rd) hp (show 1 ≤ 2 by decide) (g := RH X) rfl (by kernel_rfl)
end
end ta
end Go.Proofs.Yteknepfcbpoooaa
namespace Go.Proofs.Yteknepfcbpoooaa
open Go.ChangeShapes Go.WideShapes Go.ChangeAt Go.RowKit Go.Cln
namespace ta
open hc hx hy hz
set_option linter.unusedVariables false
noncomputable section
noncomputable def N0 (j : Nat) : List Int := 128 :: List.replicate j 0
theorem N0_len (j : Nat) : (N0 j).length = j + 1 := by simp [N0]
theorem N0_next (j : Nat) : ((N0 j).drop 0).take (j + 1) ++ [0] = N0 (j + 1) := by
  rw [List.drop_zero, List.take_of_length_le (by rw [N0_len]; omega)]
  unfold N0
  rw [List.replicate_succ', List.cons_append]
theorem cd_of {n m : Nat} {e : Bool} (hn : n ≤ 1152921504606846976) (hm : m ≤ 100) (h : ((n + m) % 64 ≠ 56) = (e = true)) : cd (n : Int) m e := by
  refine ⟨trivial, ?_⟩
  have h1 : IntKind.i64.wrap ((n : Int) + (m : Int)) = ((n + m : Nat) : Int) := by rw [IntKind.wrap_i64]; omega
  have h2 : (((n + m : Nat) : Int)).tmod 64 = (((n + m) % 64 : Nat) : Int) := by rw [Int.tmod_eq_emod_of_nonneg (by omega)]; omega
  rw [h1, h2]
  cases e with
  | true => have : (n + m) % 64 ≠ 56 := by rw [h]
            simp only [bne_iff_ne, ne_eq]; omega
  | false => have : ¬ (n + m) % 64 ≠ 56 := by rw [h]; simp
             simp only [bne_eq_false_iff_eq]; omega
theorem pR_of {n j : Nat} (hn : n ≤ 1152921504606846976) (hj : j ≤ 70) (h : (n + (j + 1)) % 64 ≠ 56) : pR (n : Int) (N0 j) (j + 1) := by
  refine ⟨⟨cd_of hn (by omega) (by simp [h]), by rw [decide_eq_false_iff_not]; omega⟩, by omega, by rw [N0_len]; omega, ?_, ?_⟩ <;> unfold mostBytes <;> omega
theorem loopT (n k : Nat) (hn : n ≤ 1152921504606846976) (hk : k = tl n - 9) (h1 : 1 ≤ k) (rd : Option Nat) : CodeOk Try.prog rd (.loop body) (E (n : Int)) (.exit 0) (Z (n : Int) (N0 k) (k + 1)) := by
  have hb := tl_b n
  refine CodeOk.of_step (Step.loop (fun f t => (f = k ∧ t = E (n : Int)) ∨ ∃ j, 1 ≤ j ∧ j ≤ k ∧ f = k - j ∧ t = R (n : Int) (N0 j) (j + 1)) ?_ k _ (.inl ⟨rfl, rfl⟩))
  rintro f t (⟨rfl, rfl⟩ | ⟨j, g1, g2, rfl, rfl⟩)
  · refine (sE (n : Int) rd (cd_of hn (by omega) (by simp; omega))).mono ?_
    rintro e t ⟨rfl, rfl⟩
    exact .inl ⟨rfl, f - 1, by omega, .inr ⟨1, by omega, h1, rfl, rfl⟩⟩
  · by_cases hj : j = k
    · subst hj
      refine (sZ (n : Int) (N0 j) (j + 1) rd (cd_of hn (by omega) (by simp; omega))).mono ?_
      rintro e t ⟨rfl, rfl⟩
      exact .inr ⟨(by intro x; cases x), rfl, rfl⟩
    · refine (sR (n : Int) (N0 j) (j + 1) rd (pR_of hn (by omega) (by omega))).mono ?_
      rintro e t ⟨rfl, rfl⟩
      exact .inl ⟨rfl, k - (j + 1), by omega, .inr ⟨j + 1, by omega, by omega, rfl, by rw [N0_next]⟩⟩
noncomputable def ask20 (n : Int) (X : List Int) (m : Nat) (f : FuncId) (c : Code) (S : St) : Option Ask2 := if f == 20 then match getL S.tmps 5 with
  | .tuple _ => some ⟨⟨[], [], [], []⟩, .exit 0, fun _ => Z n X m⟩
  | _ => none else none
noncomputable def rb (n : Int) (i : Nat) : Int := IntKind.u8.wrap (((IntKind.u64.wrap (IntKind.u64.wrap n * 8)).fdiv (2 ^ (8 * i))).tmod 256)
structure Ap where
  X : List Int
  m : Nat
  p : Prop
noncomputable def ap (a : Ap) (b : Int) : Ap := ⟨(a.X.drop 0).take a.m ++ [b], a.m + 1, (a.p ∧ decide (a.m + 1 ≤ a.m) = false) ∧ (0 + 1 ≤ 1 ∧ 0 + a.m ≤ a.X.length ∧ (a.m + 1) * 1 ≤ mostBytes ∧ a.m + 1 ≤ mostBytes)⟩
noncomputable def ap8 (n : Int) (a : Ap) : Ap := ap (ap (ap (ap (ap (ap (ap (ap a (rb n 7)) (rb n 6)) (rb n 5)) (rb n 4)) (rb n 3)) (rb n 2)) (rb n 1)) (rb n 0)
noncomputable def fin (n : Int) (X : List Int) (m : Nat) (p : Prop) : Ap := ap8 n ⟨X, m, p⟩
noncomputable def o20 : List (Option Bool) := [none, some false, none, some false, none, some false, none, some false, none, some false, none, some false, none, some false, none, some false]
noncomputable def r20 (n : Int) (X : List Int) (m : Nat) : Option (Value × St) := (mk Try.prog (Given.asking2 Given.nothing Try.prog (ask20 n X m)) 300).call 20 [.int .i64 n] (smSt 0 [] o20)
noncomputable def h17 (X : List Int) : List (Option Ob) := List.replicate 17 none ++ [some (Ob.cells (.ints .u8 X) 5)]
end
end ta
end Go.Proofs.Yteknepfcbpoooaa
namespace Go.Proofs.Yteknepfcbpoooaa
open Go.ChangeShapes Go.WideShapes Go.ChangeAt Go.RowKit Go.Cln
namespace ta
open hc hx hy hz
set_option linter.unusedVariables false
noncomputable section
def F20 (f : FuncId) (args : List Value) (s : St) : Option Inst := if f == 20 then match args with
  | [.int .i64 (.ofNat n)] => some ⟨[], 0, [], [.int .i64 (n : Int)], vs 17 (some 1) (tl n), h17 (T n), n ≤ 1152921504606846976⟩
  | _ => none else none
end
end ta
end Go.Proofs.Yteknepfcbpoooaa
namespace Go.Cln
theorem CallOk.low {P : Program} {f : FuncId} {args : List Value} {s : St} {v : Value} (h : CallOk P f args (lowE s) v (lowE s)) : CallOk P f args s v s := by
  intro ho n ρ w args' hs ha
  have l1 : Like s s := ⟨rfl, rfl, rfl, rfl, rfl⟩
  refine callsIn_wide.2 ((callsIn_wide.1 (h trivial n ρ w args' ((lowE_sub s).hs hs) ha)).mono ?_)
  rintro e w' ⟨v', ρ', rfl, g1, g2, g3⟩
  exact ⟨v', ρ', rfl, g1, (back_sub l1).hs g2, g3.low (back_sub l1) fun _ _ => rfl⟩
end Go.Cln
namespace Go.Proofs.Yteknepfcbpoooaa
open Go.ChangeShapes Go.WideShapes Go.ChangeAt Go.RowKit Go.Cln
namespace tb
open hc hx hy hz
set_option linter.unusedVariables false
noncomputable section
theorem intAt_ch (W : List Int) : intAt (W.map (Value.int .u8)) = ch W := by
  funext j
  unfold ch intAt
  rw [getL_eq, List.getD_eq_getElem?_getD, List.getElem?_map, List.getD_eq_getElem?_getD]
  cases W[j]? with
  | none => rfl
  | some x => rfl
theorem block_ok (s : sw.N5) (W : List Int) (g : Option Nat) (c : Nat) (h : W.length = 64) (hg : isAbs g = false) :
    CallOk Try.prog 15 [.agg s.row.toArray, .slice (some ⟨0, 0, g⟩) 64 c] (smSt 1 (hB W) []) (.agg (sw.blkR s (ch W)).row.toArray) (smSt 1 (hB W) []) := by
  refine CallOk.low ?_
  have hb : (lowE (smSt 1 (hB W) [])).heap.get 0 = some (.cells (.lit (W.map (Value.int .u8))) 5) := by
    simp only [lowE, Tr.get_map]
    show ((Tr.ofL (hB W)).get 0).map toLit = _
    rw [ofL_get (by simp [hB])]; rfl
  have hc : (Given.reads Given.nothing sw.FSq).call 15 [.agg s.row.toArray, .slice (some ⟨0, 0, g⟩) 64 c] (lowE (smSt 1 (hB W) [])) = some (.agg (sw.blkR s (ch W)).row.toArray, lowE (smSt 1 (hB W) [])) := by
    have hf : sw.FSq 15 [.agg s.row.toArray, .slice (some ⟨0, 0, g⟩) 64 c] (lowE (smSt 1 (hB W) [])) = some (.agg (sw.blkR s (ch W)).row.toArray) := by
      unfold sw.FSq
      simp only [beq_self_eq_true, if_true]
      rw [if_pos ⟨⟨trivial, hg⟩, rfl, rfl⟩, hb]
      have e : ((W.map (Value.int .u8)).drop 0).take 64 = W.map (Value.int .u8) := by rw [List.drop_zero, List.take_of_length_le (by simp; omega)]
      have hk : (W.map (Value.int .u8)).all (isKind .u8) = true := by
        rw [List.all_eq_true]
        intro x hx
        obtain ⟨a, _, rfl⟩ := List.mem_map.1 hx
        rfl
      simp only [e]
      rw [if_pos ⟨by simp; omega, hk⟩, intAt_ch]
      rfl
    show (match sw.FSq 15 _ _ with | some v => some (v, _) | none => _) = _
    rw [hf]
  exact (sw.FS_ok (GivenOk.nothing _)).call hc
def F15 (R : BF) (f : FuncId) (args : List Value) (s : St) : Option Inst := if f == 15 then match args with
  | [.agg st, .slice (some ⟨b, o, g⟩) n c] => match s.heap.get b with
    | some (.cells (.ints .u8 L) _) => if (st.toList.length = 5 ∧ st.toList.all (isKind .u32) = true) ∧ isAbs g = false then
        some ⟨[(b, o)], 1, hB ((L.drop o).take 64), [.agg st, .slice (some ⟨0, 0, g⟩) n c], .agg (R (sw.n5L st.toList) (ch ((L.drop o).take 64))).row.toArray, hB ((L.drop o).take 64), R = sw.blkR ∧ n = 64 ∧ ((L.drop o).take 64).length = 64⟩
      else none
    | _ => none
  | _ => none else none
theorem mapL_flat {l : List Value} {ν δ : Nat → Nat} (h : l.all flat0 = true) : l.map (mvA (mvL ν δ) ν δ) = l := by
  have : ∀ x ∈ l, mvA (mvL ν δ) ν δ x = x := fun x hx => by
    have hf := List.all_eq_true.1 h x hx
    cases x with
    | func f a b =>
      cases f with
      | func f =>
        simp only [flat0, Bool.and_eq_true, List.isEmpty_iff] at hf
        obtain ⟨a⟩ := a; obtain ⟨b⟩ := b
        simp only at hf
        obtain ⟨rfl, rfl⟩ := hf; rfl
      | _ => simp [flat0] at hf
    | pointer a => cases a <;> first | rfl | (simp [flat0] at hf)
    | slice a n c => cases a <;> first | rfl | (simp [flat0] at hf)
    | map a => cases a <;> first | rfl | (simp [flat0] at hf)
    | agg => simp [flat0] at hf
    | tuple => simp [flat0] at hf
    | _ => rfl
  conv => rhs; rw [← List.map_id l]
  exact List.map_congr_left this
theorem F15_ok (R : BF) (f : FuncId) (args : List Value) (s : St) (i : Inst) (h : F15 R f args s = some i) : Fits s i args ∧ (i.ask → CallOk Try.prog f i.args i.s0 i.val i.s1) := by
  unfold F15 at h
  split at h
  · rename_i hf
    have hf' : f = 15 := by simpa using hf
    subst hf'
    split at h
    · rename_i st b o g n c
      split at h
      · rename_i L tb hb
        split at h
        · rename_i hc
          obtain ⟨⟨h1, h2⟩, hgA⟩ := hc
          cases h
          have e1 : st = (sw.n5L st.toList).row.toArray := by rw [sw.n5L_row h1 h2]
          refine ⟨⟨?_, fun j pp ob k1 k2 => ?_⟩, fun ha => ?_⟩
          · have e2 : ∀ (ν δ : Nat → Nat), mv ν δ (.agg st) = .agg st := fun ν δ => by
              show Value.agg (st.toList.map _).toArray = _
              rw [mapL_flat (by rw [e1]; rfl)]
            show [Value.agg st, .slice (some ⟨b, o, g⟩) n c] = [mv _ _ (.agg st), if isAbs g = true then .slice (some ⟨0, 0, g⟩) n c else .slice (some ⟨b, addO o 0, g⟩) n c]
            rw [if_neg (by rw [hgA]; exact Bool.false_ne_true), e2, addO_eq]; rfl
          · rcases j with _ | j
            · simp only [List.getElem?_cons_zero, Option.some.injEq] at k1
              subst k1
              simp only [hB, List.getElem?_cons_zero, Option.some.injEq] at k2
              subst k2
              exact ⟨_, hb, fit_ints⟩
            · simp at k1
          · obtain ⟨rfl, rfl, q3⟩ := ha
            have := block_ok (sw.n5L st.toList) ((L.drop o).take 64) g c q3 hgA
            rw [← e1] at this
            exact this
        · cases h
      · cases h
    · cases h
  · cases h
end
end tb
end Go.Proofs.Yteknepfcbpoooaa
namespace Go.Proofs.Yteknepfcbpoooaa
open Go.ChangeShapes Go.WideShapes Go.ChangeAt Go.RowKit Go.Cln
namespace tb
open hc hx hy hz
set_option linter.unusedVariables false
noncomputable section
noncomputable def body : Code := loopB Try.prog 12 0
noncomputable def H (L X : List Int) (s : sw.N5) : Nat → Option Ob := fun i => match i with
  | 0 => some (.cells (.ints .u8 L) 5)
  | 1 => some (.cells (.lit (List.replicate 20 (.int .u8 0))) 24)
  | 22 => some (.cells (.ints .u8 X) 5)
  | 24 => some (.cells (.lit s.row) 31)
  | _ => none
noncomputable def hd (n c : Nat) (m : Nat) (i : Int) : List Value := [.slice (some ⟨0, 0, none⟩) n c, undef, P0 1 0, .slice (some ⟨22, 0, some 1⟩) m m, P0 24 0, .int .i64 i, undef, undef] ++ J 7 ++ [.agg F0.row.toArray]
noncomputable def E (L X : List Int) (n c : Nat) (m : Nat) (s : sw.N5) (i : Int) : St := ⟨hd n c m i ++ U 32, [], Tr.rebuild (H L X s) 25, 25, 1, [], fun _ => false, True, []⟩
noncomputable def R (L X : List Int) (n c : Nat) (m : Nat) (s : sw.N5) (i : Int) : St := ⟨hd n c m i ++ (J 6 ++ .agg (J 5).toArray :: (J 5 ++ .agg (J 5).toArray :: U 19)), [], Tr.rebuild (H L X s) 25, 25, 1, [], fun _ => false, True, []⟩
noncomputable def i' (i : Int) : Int := IntKind.i64.wrap (i + 64)
noncomputable def ww (X : List Int) (i : Int) : List Int := (X.drop (0 + i.toNat * 1)).take 64
noncomputable def pC (B : BF) (X : List Int) (m : Nat) (i : Int) : Prop := ((True ∧ decide (i < (m : Int)) = true) ∧ (0 ≤ i' i ∧ i' i ≤ (m : Int) ∧ 0 ≤ i ∧ i ≤ i' i)) ∧ (B = sw.blkR ∧ (i' i).toNat - i.toNat = 64 ∧ (ww X i).length = 64)
noncomputable def KL (B : BF) : Given := Given.frames Given.nothing (F15 B)
theorem KL_ok (B : BF) : GivenOk Try.prog (KL B) := (GivenOk.nothing _).frames (F15_ok B)
theorem kE (B : BF) (L X : List Int) (n c : Nat) (m : Nat) (s : sw.N5) (i : Int) (rd : Option Nat) : ((mk Try.prog (KL B) 200).code 12 rd body { E L X n c m s i with obl := True, orc := [some true, some true] }).map (fun r => (r.1, r.2.obl, seenIn r.2 (R L X n c m (B s (ch (ww X i))) (i' i)) [])) =
    some (.normal, pC B X m i, seenAs (R L X n c m (B s (ch (ww X i))) (i' i)) [] 25) := by kernel_rfl
theorem kR (B : BF) (L X : List Int) (n c : Nat) (m : Nat) (s : sw.N5) (i : Int) (rd : Option Nat) : ((mk Try.prog (KL B) 200).code 12 rd body { R L X n c m s i with obl := True, orc := [some true, some true] }).map (fun r => (r.1, r.2.obl, seenIn r.2 (R L X n c m (B s (ch (ww X i))) (i' i)) [])) =
    some (.normal, pC B X m i, seenAs (R L X n c m (B s (ch (ww X i))) (i' i)) [] 25) := by kernel_rfl
theorem kX (B : BF) (L X : List Int) (n c : Nat) (m : Nat) (s : sw.N5) (i : Int) (rd : Option Nat) : ((mk Try.prog (KL B) 200).code 12 rd body { R L X n c m s i with obl := True, orc := [some false] }).map (fun r => (r.1, r.2.obl, seenIn r.2 (R L X n c m s i) [])) =
    some (.exit 0, True ∧ decide (i < (m : Int)) = false, seenAs (R L X n c m s i) [] 25) := by kernel_rfl
theorem sE (B : BF) (L X : List Int) (n c : Nat) (m : Nat) (s : sw.N5) (i : Int) (rd : Option Nat) (hp : pC B X m i) : Step Try.prog rd (E L X n c m s i) body (E L X n c m s i) (fun e t => e = .normal ∧ t = R L X n c m (B s (ch (ww X i))) (i' i)) :=
  Step.std sw.pg (KL_ok B) (kE B L X n c m s i rd) hp (Nat.le_refl _) (g := H L X (B s (ch (ww X i)))) rfl (by kernel_rfl)
theorem sR (B : BF) (L X : List Int) (n c : Nat) (m : Nat) (s : sw.N5) (i : Int) (s0 : sw.N5) (i0 : Int) (rd : Option Nat) (hp : pC B X m i) : Step Try.prog rd (E L X n c m s0 i0) body (R L X n c m s i) (fun e t => e = .normal ∧ t = R L X n c m (B s (ch (ww X i))) (i' i)) :=
  Step.std sw.pg (KL_ok B) (kR B L X n c m s i rd) hp (Nat.le_refl _) (g := H L X (B s (ch (ww X i)))) rfl (by kernel_rfl)
theorem sX (B : BF) (L X : List Int) (n c : Nat) (m : Nat) (s : sw.N5) (i : Int) (s0 : sw.N5) (i0 : Int) (rd : Option Nat) (hp : True ∧ decide (i < (m : Int)) = false) : Step Try.prog rd (E L X n c m s0 i0) body (R L X n c m s i) (fun e t => e = .exit 0 ∧ t = R L X n c m s i) :=
  Step.std sw.pg (KL_ok B) (kX B L X n c m s i rd) hp (Nat.le_refl _) (g := H L X s) rfl (by kernel_rfl)
end
end tb
end Go.Proofs.Yteknepfcbpoooaa
namespace Go.Proofs.Yteknepfcbpoooaa
open Go.ChangeShapes Go.WideShapes Go.ChangeAt Go.RowKit Go.Cln
namespace tb
open hc hx hy hz
set_option linter.unusedVariables false
noncomputable section
noncomputable def ask12 (S1 : St) (f : FuncId) (c : Code) (S : St) : Option Ask2 := if f == 12 then match getL S.tmps 6 with
  | .tuple _ => some ⟨⟨[8, 9, 10, 11, 12, 13, 14], [], [], [2, 21, 23]⟩, .exit 0, fun _ => S1⟩
  | _ => none else none
noncomputable def rb4 (w : Int) (j : Nat) : Int := IntKind.u8.wrap ((w.fdiv (2 ^ (8 * j))).tmod 256)
noncomputable def K12 (S1 : St) : Given := Given.frames (Given.asking2 Given.nothing Try.prog (ask12 S1)) ta.F20
noncomputable def r12 (L : List Int) (n c : Nat) (S1 : St) : Option (Value × St) := (mk Try.prog (K12 S1) 300).call 12 [.slice (some ⟨0, 0, none⟩) n c] (smSt 1 (hB L) [some false, some false])
end
end tb
end Go.Proofs.Yteknepfcbpoooaa
namespace Go.Proofs.Yteknepfcbpoooaa
open Go.ChangeShapes Go.WideShapes Go.ChangeAt Go.RowKit Go.Cln
namespace tb
open hc hx hy hz
set_option linter.unusedVariables false
noncomputable section
noncomputable def out12 (L : List Int) : List (Option Ob) := some (Ob.cells (.ints .u8 L) 5) :: List.replicate 25 none
theorem rb4_eq {w : Int} (h : 0 ≤ w) (j : Nat) : rb4 w j = by8 w j := by
  have key : ∀ j, sh8 w j = w / 2 ^ (8 * j) := by
    intro j
    induction j with
    | zero => show w = _; omega
    | succ j ih =>
      show (sh8 w j).fdiv (2 ^ 8) = _
      rw [ih, Int.fdiv_eq_ediv_of_nonneg _ (by decide), Int.ediv_ediv_of_nonneg (by exact Int.pow_nonneg (by decide)), ← Int.pow_add]
      congr 1
  unfold rb4 by8
  rw [key, Int.fdiv_eq_ediv_of_nonneg _ (Int.pow_nonneg (by decide))]
  have hnn : 0 ≤ w / 2 ^ (8 * j) := Int.ediv_nonneg h (Int.pow_nonneg (by decide))
  rw [Int.tmod_eq_emod_of_nonneg hnn]
  generalize w / 2 ^ (8 * j) = x at hnn
  simp only [IntKind.wrap_u8]
  omega
theorem shaN_ok (M : List Int) : sw.ok5 (shaN M) := fold_ok blkR_ok F0_ok _ _
def F12 (D : List Int → sw.N5) (f : FuncId) (args : List Value) (s : St) : Option Inst := if f == 12 then match args with
  | [.slice (some ⟨b, o, g⟩) n c] => match s.heap.get b with
    | some (.cells (.ints .u8 L) _) => if gOk g = true then some ⟨[(b, o)], 1, hB ((L.drop o).take n), [.slice (some ⟨0, 0, g⟩) n c], outV (D ((L.drop o).take n)), out12 ((L.drop o).take n), D = shaN ∧ n = ((L.drop o).take n).length ∧ 0 < n ∧ n ≤ 1000000000⟩ else none
    | _ => none
  | _ => none else none
def F11 (D : List Int → sw.N5) (f : FuncId) (args : List Value) (s : St) : Option Inst := if f == 11 then match args with
  | [.slice (some ⟨b, o, g⟩) n c] => match s.heap.get b with
    | some (.cells (.ints .u8 L) _) => if gOk g = true then some ⟨[(b, o)], 1, hB ((L.drop o).take n), [.slice (some ⟨0, 0, g⟩) n c], outV (D ((L.drop o).take n)), out11 ((L.drop o).take n), D = shaN ∧ Byt ((L.drop o).take n) ∧ n = ((L.drop o).take n).length ∧ n ≤ c ∧ n ≤ 1000000000⟩ else none
    | _ => none
  | _ => none else none
end
end tb
end Go.Proofs.Yteknepfcbpoooaa
namespace Go.Proofs.Yteknepfcbpoooaa
open Go.ChangeShapes Go.WideShapes Go.ChangeAt Go.RowKit Go.Cln
namespace tc
open hc hx hy hz tb
set_option linter.unusedVariables false
noncomputable section
end
end tc
end Go.Proofs.Yteknepfcbpoooaa
namespace Go.Proofs.Yteknepfcbpoooaa
open Go.ChangeShapes Go.WideShapes Go.ChangeAt Go.RowKit Go.Cln
namespace tc
open hc hx hy hz tb
set_option linter.unusedVariables false
noncomputable section
noncomputable def nn (k : Nat) : List (Option Ob) := List.replicate k none
def FN (D : List Int → sw.N5) (f : FuncId) (args : List Value) (s : St) : Option Inst := if f == 11 then match args with
  | [.slice none 0 0] => some ⟨[], 0, [], [.slice none 0 0], outV (D []), nn 28, D = shaN⟩
  | [.slice (some ⟨b, o, g⟩) 0 c] => if gOk g = true then some ⟨[(b, o)], 1, [none], [.slice (some ⟨0, 0, g⟩) 0 c], outV (D []), nn 29, D = shaN⟩ else none
  | _ => none else if f == 12 then match args with
  | [.slice none 0 0] => some ⟨[], 0, [], [.slice none 0 0], outV (D []), nn 24, D = shaN⟩
  | [.slice (some ⟨b, o, g⟩) 0 c] => if gOk g = true then some ⟨[(b, o)], 1, [none], [.slice (some ⟨0, 0, g⟩) 0 c], outV (D []), nn 25, D = shaN⟩ else none
  | _ => none else none
def F10 (f : FuncId) (args : List Value) (s : St) : Option Inst := if f == 10 then match args with
  | [] => some ⟨[], 0, [], [], .bool true, [], True⟩
  | _ => none else none
def FD (D : List Int → sw.N5) (f : FuncId) (args : List Value) (s : St) : Option Inst := match F11 D f args s with
  | some i => some i
  | none => match F12 D f args s with
    | some i => some i
    | none => match FN D f args s with
      | some i => some i
      | none => F10 f args s
theorem works_ok : CallOk Try.prog 10 [] (smSt 0 [] []) (.bool true) (smSt 0 [] []) := CallOk.of_below sw.known rfl rfl _
def KD (D : List Int → sw.N5) : Given := { Given.frames Given.nothing (FD D) with fits := true }
noncomputable def r3 (D : List Int → sw.N5) (L : List Int) (n c : Nat) (o : List (Option Bool)) : Option (Value × St) := (mk Try.prog (KD D) 300).call 3 [.slice (some ⟨0, 0, none⟩) n c] (smSt 1 (hB L) o)
noncomputable def r7 (D : List Int → sw.N5) (k : Int) (L : List Int) (n c : Nat) (o : List (Option Bool)) : Option (Value × St) := (mk Try.prog (KD D) 300).call 7 [.int .i64 k, .slice (some ⟨0, 0, none⟩) n c] (smSt 1 (hB L) o)
end
end tc
end Go.Proofs.Yteknepfcbpoooaa
