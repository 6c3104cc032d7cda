/- Read off the code by the clean reading. -/
import Derived.Test.YtphiebmgeiekaaaClnSa
import Derived.Test.YtphiebmgeiekaaaClnQc
set_option linter.unusedVariables false
set_option linter.unusedSimpArgs false
set_option linter.deprecated false
set_option maxRecDepth 100000
namespace Go.Proofs.Ytphiebmgeiekaaa
open Go.ChangeShapes Go.WideShapes Go.ChangeAt Go.RowKit Go.Cln
namespace ta
open hc hx hy hz
set_option linter.unusedVariables false
noncomputable section
noncomputable def body : Code := loopB Try.prog 30 0
noncomputable def vs (b : Nat) (g : Option Nat) (m : Nat) : Value := .slice (some ⟨b, 0, g⟩) m m
noncomputable def EH : Nat → Option Ob := fun i => match i with
  | 0 => some (.cells (.lit [.int .u8 128]) 5)
  | _ => none
noncomputable def E (n : Int) : St := ⟨[.int .i64 n, undef, .slice none 0 0, vs 0 none 1, undef, undef, vs 0 none 1] ++ U 27, [], Tr.rebuild EH 1, 1, 0, [], fun _ => false, True, []⟩
noncomputable def RH (X : List Int) : Nat → Option Ob := fun i => match i with
  | 0 => some (.cells (.lit [.int .u8 128]) 5)
  | 1 => some (.cells (.ints .u8 X) 5)
  | _ => none
noncomputable def R (n : Int) (X : List Int) (m : Nat) : St := ⟨[.int .i64 n, undef, .slice none 0 0, vs 1 (some 1) m, undef, undef, vs 0 none 1, .int .i64 n, junk, junk, junk, junk, .bool true, junk, junk, junk] ++ U 18, [], Tr.rebuild (RH X) 2, 2, 0, [], fun _ => false, True, []⟩
noncomputable def Z (n : Int) (X : List Int) (m : Nat) : St := ⟨[.int .i64 n, undef, .slice none 0 0, vs 1 (some 1) m, undef, undef, vs 0 none 1, .int .i64 n, junk, junk, junk, junk, .bool false, junk, junk, junk] ++ U 18, [], Tr.rebuild (RH X) 2, 2, 0, [], fun _ => false, True, []⟩
noncomputable def cd (n : Int) (m : Nat) (e : Bool) : Prop := True ∧ ((IntKind.i64.wrap (n + (m : Int))).tmod 64 != 56) = e
noncomputable def pR (n : Int) (X : List Int) (m : Nat) : Prop := (cd n m true ∧ decide (m + 1 ≤ m) = false) ∧ (0 + 1 ≤ 1 ∧ 0 + m ≤ X.length ∧ (m + 1) * 1 ≤ mostBytes ∧ m + 1 ≤ mostBytes)
theorem kE (n : Int) (rd : Option Nat) : ((mk Try.prog Given.nothing 200).code 30 rd body { E n with obl := True, orc := [some true] }).map (fun r => (r.1, r.2.obl, seenIn r.2 (R n [128, 0] 2) [0, 2])) = some (.normal, cd n 1 true, seenAs (R n [128, 0] 2) [0, 2] 3) := by kernel_rfl
theorem kR (n : Int) (X : List Int) (m : Nat) (rd : Option Nat) : ((mk Try.prog Given.nothing 200).code 30 rd body { R n X m with obl := True, orc := [some true, some false] }).map (fun r => (r.1, r.2.obl, seenIn r.2 (R n ((X.drop 0).take m ++ [0]) (m + 1)) [0, 3])) = some (.normal, pR n X m, seenAs (R n ((X.drop 0).take m ++ [0]) (m + 1)) [0, 3] 4) := by kernel_rfl
theorem kZ (n : Int) (X : List Int) (m : Nat) (rd : Option Nat) : ((mk Try.prog Given.nothing 200).code 30 rd body { R n X m with obl := True, orc := [some false] }).map (fun r => (r.1, r.2.obl, seenIn r.2 (Z n X m) [])) = some (.exit 0, cd n m false, seenAs (Z n X m) [] 2) := by kernel_rfl
theorem sE (n : Int) (rd : Option Nat) (hp : cd n 1 true) : Step Try.prog rd (E n) body (E n) (fun e t => e = .normal ∧ t = R n [128, 0] 2) :=
  Step.std sw.pg (GivenOk.nothing _) (kE n rd) hp (Nat.le_refl _) (g := RH [128, 0]) rfl (by kernel_rfl)
theorem sR (n : Int) (X : List Int) (m : Nat) (rd : Option Nat) (hp : pR n X m) : Step Try.prog rd (E n) body (R n X m) (fun e t => e = .normal ∧ t = R n ((X.drop 0).take m ++ [0]) (m + 1)) :=
  Step.std sw.pg (GivenOk.nothing _) (kR n X m rd) hp (show 1 ≤ 2 by decide) (g := RH ((X.drop 0).take m ++ [0])) rfl (by kernel_rfl)
theorem sZ (n : Int) (X : List Int) (m : Nat) (rd : Option Nat) (hp : cd n m false) : Step Try.prog rd (E n) body (R n X m) (fun e t => e = .exit 0 ∧ t = Z n X m) :=
  Step.std sw.pg (GivenOk.nothing _) (kZ n X m rd) hp (show 1 ≤ 2 by decide) (g := RH X) rfl (by kernel_rfl)
end
end ta
end Go.Proofs.Ytphiebmgeiekaaa
namespace Go.Proofs.Ytphiebmgeiekaaa
open Go.ChangeShapes Go.WideShapes Go.ChangeAt Go.RowKit Go.Cln
namespace ta
open hc hx hy hz
set_option linter.unusedVariables false
noncomputable section
noncomputable def N0 (j : Nat) : List Int := 128 :: List.replicate j 0
theorem N0_len (j : Nat) : (N0 j).length = j + 1 := by simp [N0]
theorem N0_next (j : Nat) : ((N0 j).drop 0).take (j + 1) ++ [0] = N0 (j + 1) := by
  rw [List.drop_zero, List.take_of_length_le (by rw [N0_len]; omega)]
  unfold N0
  rw [List.replicate_succ', List.cons_append]
theorem cd_of {n m : Nat} {e : Bool} (hn : n ≤ 1152921504606846976) (hm : m ≤ 100) (h : ((n + m) % 64 ≠ 56) = (e = true)) : cd (n : Int) m e := by
  refine ⟨trivial, ?_⟩
  have h1 : IntKind.i64.wrap ((n : Int) + (m : Int)) = ((n + m : Nat) : Int) := by rw [IntKind.wrap_i64]; omega
  have h2 : (((n + m : Nat) : Int)).tmod 64 = (((n + m) % 64 : Nat) : Int) := by rw [Int.tmod_eq_emod_of_nonneg (by omega)]; omega
  rw [h1, h2]
  cases e with
  | true => have : (n + m) % 64 ≠ 56 := by rw [h]
            simp only [bne_iff_ne, ne_eq]; omega
  | false => have : ¬ (n + m) % 64 ≠ 56 := by rw [h]; simp
             simp only [bne_eq_false_iff_eq]; omega
theorem pR_of {n j : Nat} (hn : n ≤ 1152921504606846976) (hj : j ≤ 70) (h : (n + (j + 1)) % 64 ≠ 56) : pR (n : Int) (N0 j) (j + 1) := by
  refine ⟨⟨cd_of hn (by omega) (by simp [h]), by rw [decide_eq_false_iff_not]; omega⟩, by omega, by rw [N0_len]; omega, ?_, ?_⟩ <;> unfold mostBytes <;> omega
theorem loopT (n k : Nat) (hn : n ≤ 1152921504606846976) (hk : k = tl n - 9) (h1 : 1 ≤ k) (rd : Option Nat) : CodeOk Try.prog rd (.loop body) (E (n : Int)) (.exit 0) (Z (n : Int) (N0 k) (k + 1)) := by
  have hb := tl_b n
  refine CodeOk.of_step (Step.loop (fun f t => (f = k ∧ t = E (n : Int)) ∨ ∃ j, 1 ≤ j ∧ j ≤ k ∧ f = k - j ∧ t = R (n : Int) (N0 j) (j + 1)) ?_ k _ (.inl ⟨rfl, rfl⟩))
  rintro f t (⟨rfl, rfl⟩ | ⟨j, g1, g2, rfl, rfl⟩)
  · refine (sE (n : Int) rd (cd_of hn (by omega) (by simp; omega))).mono ?_
    rintro e t ⟨rfl, rfl⟩
    exact .inl ⟨rfl, f - 1, by omega, .inr ⟨1, by omega, h1, rfl, rfl⟩⟩
  · by_cases hj : j = k
    · subst hj
      refine (sZ (n : Int) (N0 j) (j + 1) rd (cd_of hn (by omega) (by simp; omega))).mono ?_
      rintro e t ⟨rfl, rfl⟩
      exact .inr ⟨(by intro x; cases x), rfl, rfl⟩
    · refine (sR (n : Int) (N0 j) (j + 1) rd (pR_of hn (by omega) (by omega))).mono ?_
      rintro e t ⟨rfl, rfl⟩
      exact .inl ⟨rfl, k - (j + 1), by omega, .inr ⟨j + 1, by omega, by omega, rfl, by rw [N0_next]⟩⟩
noncomputable def ask20 (n : Int) (X : List Int) (m : Nat) (f : FuncId) (c : Code) (S : St) : Option Ask2 := if f == 30 then match getL S.tmps 5 with
  | .tuple _ => some ⟨⟨[], [], [], []⟩, .exit 0, fun _ => Z n X m⟩
  | _ => none else none
noncomputable def rb (n : Int) (i : Nat) : Int := IntKind.u8.wrap (((IntKind.u64.wrap (IntKind.u64.wrap n * 8)).fdiv (2 ^ (8 * i))).tmod 256)
structure Ap where
  X : List Int
  m : Nat
  p : Prop
noncomputable def ap (a : Ap) (b : Int) : Ap := ⟨(a.X.drop 0).take a.m ++ [b], a.m + 1, (a.p ∧ decide (a.m + 1 ≤ a.m) = false) ∧ (0 + 1 ≤ 1 ∧ 0 + a.m ≤ a.X.length ∧ (a.m + 1) * 1 ≤ mostBytes ∧ a.m + 1 ≤ mostBytes)⟩
noncomputable def ap8 (n : Int) (a : Ap) : Ap := ap (ap (ap (ap (ap (ap (ap (ap a (rb n 7)) (rb n 6)) (rb n 5)) (rb n 4)) (rb n 3)) (rb n 2)) (rb n 1)) (rb n 0)
noncomputable def fin (n : Int) (X : List Int) (m : Nat) (p : Prop) : Ap := ap8 n ⟨X, m, p⟩
noncomputable def o20 : List (Option Bool) := [none, some false, none, some false, none, some false, none, some false, none, some false, none, some false, none, some false, none, some false]
noncomputable def r20 (n : Int) (X : List Int) (m : Nat) : Option (Value × St) := (mk Try.prog (Given.asking2 Given.nothing Try.prog (ask20 n X m)) 300).call 30 [.int .i64 n] (smSt 0 [] o20)
noncomputable def r20z (n : Int) : Option (Value × St) := (mk Try.prog Given.nothing 300).call 30 [.int .i64 n] (smSt 0 [none] [some false])
noncomputable def ks17 : List Bool := List.replicate 17 false ++ [true]
noncomputable def h17 (X : List Int) : List (Option Ob) := List.replicate 17 none ++ [some (Ob.cells (.ints .u8 X) 5)]
theorem run20 (n : Int) (X : List Int) (m : Nat) : (r20 n X m).map (fun r => (r.1, r.2.obl, r.2.next, keepL ks17 r.2.heap.get 0)) =
    some (vs 17 (some 1) (m + 8), (fin n X m (True ∧ ∀ rd, CodeOk Try.prog rd (.loop body) (E n) (.exit 0) (Z n X m))).p, (h17 (fin n X m True).X).length, h17 (fin n X m True).X) := by kernel_rfl
noncomputable def L9 (n : Int) : List Int := [128, rb n 7, rb n 6, rb n 5, rb n 4, rb n 3, rb n 2, rb n 1, rb n 0]
noncomputable def h17z (X : List Int) : List (Option Ob) := List.replicate 17 none ++ [some (Ob.cells (.lit (X.map (Value.int .u8))) 5)]
theorem run20z (n : Int) : (r20z n).map (fun r => (r.1, r.2.obl, r.2.next, keepL ks17 r.2.heap.get 0)) =
    some (vs 17 (some 1) 9, cd n 1 false, (h17z (L9 n)).length, h17z (L9 n)) := by kernel_rfl
end
end ta
end Go.Proofs.Ytphiebmgeiekaaa
namespace Go.Proofs.Ytphiebmgeiekaaa
open Go.ChangeShapes Go.WideShapes Go.ChangeAt Go.RowKit Go.Cln
namespace ta
open hc hx hy hz
set_option linter.unusedVariables false
noncomputable section
theorem sh8_eq {n : Nat} : ∀ j, sh8 ((n : Int) * 8) j = ((n : Int) * 8) / 2 ^ (8 * j)
  | 0 => by show (n : Int) * 8 = _; omega
  | j + 1 => by
    show (sh8 ((n : Int) * 8) j).fdiv (2 ^ 8) = _
    rw [sh8_eq j, Int.fdiv_eq_ediv_of_nonneg _ (by decide), Int.ediv_ediv_of_nonneg (by exact Int.pow_nonneg (by decide)), ← Int.pow_add]
    congr 1
theorem rb_eq {n : Nat} (h : n ≤ 1152921504606846976) (j : Nat) : rb (n : Int) j = by8 ((n : Int) * 8) j := by
  unfold rb by8
  have hx : IntKind.u64.wrap (IntKind.u64.wrap (n : Int) * 8) = (n : Int) * 8 := by rw [IntKind.wrap_u64, IntKind.wrap_u64]; omega
  rw [sh8_eq j, hx, Int.fdiv_eq_ediv_of_nonneg _ (Int.pow_nonneg (by decide))]
  have hnn : 0 ≤ (n : Int) * 8 / 2 ^ (8 * j) := Int.ediv_nonneg (by omega) (Int.pow_nonneg (by decide))
  rw [Int.tmod_eq_emod_of_nonneg hnn]
  generalize (n : Int) * 8 / 2 ^ (8 * j) = x at hnn
  simp only [IntKind.wrap_u8]
  omega
theorem ap_ok {a : Ap} {b : Int} {Y : List Int} (hX : a.X = Y) (hm : a.m = Y.length) (hs : Y.length ≤ 1000) (hp : a.p) : (ap a b).X = Y ++ [b] ∧ (ap a b).m = (Y ++ [b]).length ∧ (ap a b).p := by
  obtain ⟨X, m, p⟩ := a
  simp only at hX hm hp
  subst hX; subst hm
  unfold ap
  refine ⟨?_, ?_, ⟨hp, ?_⟩, ?_⟩
  · simp only; rw [List.drop_zero, List.take_length]
  · simp
  · rw [decide_eq_false_iff_not]; simp only; omega
  · refine ⟨by omega, by simp, ?_, ?_⟩ <;> unfold mostBytes <;> simp only <;> omega
theorem fin_ok {n : Int} {X : List Int} {p : Prop} (hs : X.length ≤ 900) (hp : p) : (fin n X X.length p).X = X ++ [rb n 7, rb n 6, rb n 5, rb n 4, rb n 3, rb n 2, rb n 1, rb n 0] ∧ (fin n X X.length p).p := by
  unfold fin ap8
  obtain ⟨a1, a2, a3⟩ := ap_ok (a := ⟨X, X.length, p⟩) (b := rb n 7) rfl rfl (show X.length ≤ 1000 by omega) hp
  obtain ⟨b1, b2, b3⟩ := ap_ok (b := rb n 6) a1 a2 (by simp; omega) a3
  obtain ⟨c1, c2, c3⟩ := ap_ok (b := rb n 5) b1 b2 (by simp; omega) b3
  obtain ⟨d1, d2, d3⟩ := ap_ok (b := rb n 4) c1 c2 (by simp; omega) c3
  obtain ⟨e1, e2, e3⟩ := ap_ok (b := rb n 3) d1 d2 (by simp; omega) d3
  obtain ⟨f1, f2, f3⟩ := ap_ok (b := rb n 2) e1 e2 (by simp; omega) e3
  obtain ⟨g1, g2, g3⟩ := ap_ok (b := rb n 1) f1 f2 (by simp; omega) f3
  obtain ⟨h1, h2, h3⟩ := ap_ok (b := rb n 0) g1 g2 (by simp; omega) g3
  refine ⟨?_, h3⟩
  rw [h1]
  simp only [List.append_assoc, List.cons_append, List.nil_append]
theorem T_eq {n : Nat} (h : n ≤ 1152921504606846976) : N0 (tl n - 9) ++ [rb n 7, rb n 6, rb n 5, rb n 4, rb n 3, rb n 2, rb n 1, rb n 0] = T n := by
  unfold N0 T be8
  simp only [rb_eq h, List.cons_append]
theorem tailR (n : Nat) (h : n ≤ 1152921504606846976) : CallOk Try.prog 30 [.int .i64 (n : Int)] (smSt 0 [] []) (vs 17 (some 1) (tl n)) (smSt 0 (h17 (T n)) []) := by
  have hb := tl_b n
  by_cases hk : tl n = 9
  · have h1 := frame_by sw.pg (GivenOk.nothing _) ks17 (run20z (n : Int)) (cd_of h (by omega) (by simp; omega)) (by rfl) rfl
    have h2 := h1.base (l := []) 1 (by decide) (by decide)
    have e : L9 (n : Int) = T n := by
      rw [← T_eq h, hk]; rfl
    rw [e] at h2
    rw [hk]
    refine h2.sub trivial ⟨rfl, rfl, rfl, rfl, fun b o hb => ?_⟩ fun b hb => ?_
    · have hb' : (Tr.ofL (h17 (T n))).get b = some o := hb
      rw [ofL_get (by simp [h17])] at hb'
      have hlt : b < 18 := by
        rcases Nat.lt_or_ge b 18 with h3 | h3
        · exact h3
        · unfold hget at hb'
          rw [List.getElem?_eq_none (by simpa [h17] using h3)] at hb'
          cases hb'
      by_cases h17b : b = 17
      · subst h17b
        have e1 : hget (h17 (T n)) 17 = some (Ob.cells (.ints .u8 (T n)) 5) := rfl
        rw [e1] at hb'
        cases hb'
        refine ⟨.cells (.lit ((T n).map (Value.int .u8))) 5, ?_, ints_sub _ _ _ _⟩
        show (Tr.ofL (h17z (T n))).get 17 = _
        rw [ofL_get (by simp [h17z])]; rfl
      · exfalso
        have : hget (h17 (T n)) b = none := by
          unfold hget h17
          rw [List.getElem?_append_left (by simp; omega), List.getElem?_replicate]
          rw [if_pos (by omega)]
        rw [this] at hb'; cases hb'
    · unfold St.may at hb
      simp [smSt] at hb
  · have hs : (N0 (tl n - 9)).length ≤ 900 := by rw [N0_len]; omega
    obtain ⟨e1, e2⟩ := fin_ok (n := (n : Int)) (X := N0 (tl n - 9)) (p := True ∧ ∀ rd, CodeOk Try.prog rd (.loop body) (E (n : Int)) (.exit 0) (Z (n : Int) (N0 (tl n - 9)) (tl n - 9 + 1))) hs ⟨trivial, fun rd => loopT n _ h rfl (by omega) rd⟩
    obtain ⟨e3, _⟩ := fin_ok (n := (n : Int)) (X := N0 (tl n - 9)) (p := True) hs trivial
    rw [N0_len] at e1 e2 e3
    have := frame_by sw.pg (GivenOk.asking2 (GivenOk.nothing _) _) ks17 (run20 (n : Int) (N0 (tl n - 9)) (tl n - 9 + 1)) e2 (by rfl) rfl
    rw [e3, T_eq h, show tl n - 9 + 1 + 8 = tl n by omega] at this
    exact this
def F20 (f : FuncId) (args : List Value) (s : St) : Option Inst := if f == 30 then match args with
  | [.int .i64 (.ofNat n)] => some ⟨[], 0, [], [.int .i64 (n : Int)], vs 17 (some 1) (tl n), h17 (T n), n ≤ 1152921504606846976⟩
  | _ => none else none
theorem F20_ok (f : FuncId) (args : List Value) (s : St) (i : Inst) (h : F20 f args s = some i) : Fits s i args ∧ (i.ask → CallOk Try.prog f i.args i.s0 i.val i.s1) := by
  unfold F20 at h
  split at h
  · rename_i hf
    have hf' : f = 30 := by simpa using hf
    subst hf'
    split at h
    · cases h
      exact ⟨⟨rfl, fun j p ob hp ho => by simp at hp⟩, fun ha => tailR _ ha⟩
    · cases h
  · cases h
end
end ta
end Go.Proofs.Ytphiebmgeiekaaa
namespace Go.Cln
theorem CallOk.low {P : Program} {f : FuncId} {args : List Value} {s : St} {v : Value} (h : CallOk P f args (lowE s) v (lowE s)) : CallOk P f args s v s := by
  intro ho n ρ w args' hs ha
  have l1 : Like s s := ⟨rfl, rfl, rfl, rfl, rfl⟩
  refine callsIn_wide.2 ((callsIn_wide.1 (h trivial n ρ w args' ((lowE_sub s).hs hs) ha)).mono ?_)
  rintro e w' ⟨v', ρ', rfl, g1, g2, g3⟩
  exact ⟨v', ρ', rfl, g1, (back_sub l1).hs g2, g3.low (back_sub l1) fun _ _ => rfl⟩
end Go.Cln
namespace Go.Proofs.Ytphiebmgeiekaaa
open Go.ChangeShapes Go.WideShapes Go.ChangeAt Go.RowKit Go.Cln
namespace tb
open hc hx hy hz
set_option linter.unusedVariables false
noncomputable section
theorem intAt_ch (W : List Int) : intAt (W.map (Value.int .u8)) = ch W := by
  funext j
  unfold ch intAt
  rw [getL_eq, List.getD_eq_getElem?_getD, List.getElem?_map, List.getD_eq_getElem?_getD]
  cases W[j]? with
  | none => rfl
  | some x => rfl
theorem block_ok (s : sw.N5) (W : List Int) (g : Option Nat) (c : Nat) (h : W.length = 64) (hg : isAbs g = false) :
    CallOk Try.prog 32 [.agg s.row.toArray, .slice (some ⟨0, 0, g⟩) 64 c] (smSt 1 (hB W) []) (.agg (sw.blkR s (ch W)).row.toArray) (smSt 1 (hB W) []) := by
  refine CallOk.low ?_
  have hb : (lowE (smSt 1 (hB W) [])).heap.get 0 = some (.cells (.lit (W.map (Value.int .u8))) 5) := by
    simp only [lowE, Tr.get_map]
    show ((Tr.ofL (hB W)).get 0).map toLit = _
    rw [ofL_get (by simp [hB])]; rfl
  have hc : (Given.reads Given.nothing sw.FSq).call 32 [.agg s.row.toArray, .slice (some ⟨0, 0, g⟩) 64 c] (lowE (smSt 1 (hB W) [])) = some (.agg (sw.blkR s (ch W)).row.toArray, lowE (smSt 1 (hB W) [])) := by
    have hf : sw.FSq 32 [.agg s.row.toArray, .slice (some ⟨0, 0, g⟩) 64 c] (lowE (smSt 1 (hB W) [])) = some (.agg (sw.blkR s (ch W)).row.toArray) := by
      unfold sw.FSq
      simp only [beq_self_eq_true, if_true]
      rw [if_pos ⟨⟨trivial, hg⟩, rfl, rfl⟩, hb]
      have e : ((W.map (Value.int .u8)).drop 0).take 64 = W.map (Value.int .u8) := by rw [List.drop_zero, List.take_of_length_le (by simp; omega)]
      have hk : (W.map (Value.int .u8)).all (isKind .u8) = true := by
        rw [List.all_eq_true]
        intro x hx
        obtain ⟨a, _, rfl⟩ := List.mem_map.1 hx
        rfl
      simp only [e]
      rw [if_pos ⟨by simp; omega, hk⟩, intAt_ch]
      rfl
    show (match sw.FSq 32 _ _ with | some v => some (v, _) | none => _) = _
    rw [hf]
  exact (sw.FS_ok (GivenOk.nothing _)).call hc
def F15 (R : BF) (f : FuncId) (args : List Value) (s : St) : Option Inst := if f == 32 then match args with
  | [.agg st, .slice (some ⟨b, o, g⟩) n c] => match s.heap.get b with
    | some (.cells (.ints .u8 L) _) => if (st.toList.length = 5 ∧ st.toList.all (isKind .u32) = true) ∧ isAbs g = false then
        some ⟨[(b, o)], 1, hB ((L.drop o).take 64), [.agg st, .slice (some ⟨0, 0, g⟩) n c], .agg (R (sw.n5L st.toList) (ch ((L.drop o).take 64))).row.toArray, hB ((L.drop o).take 64), R = sw.blkR ∧ n = 64 ∧ ((L.drop o).take 64).length = 64⟩
      else none
    | _ => none
  | _ => none else none
theorem mapL_flat {l : List Value} {ν δ : Nat → Nat} (h : l.all flat0 = true) : l.map (mvA (mvL ν δ) ν δ) = l := by
  have : ∀ x ∈ l, mvA (mvL ν δ) ν δ x = x := fun x hx => by
    have hf := List.all_eq_true.1 h x hx
    cases x with
    | func f a b =>
      cases f with
      | func f =>
        simp only [flat0, Bool.and_eq_true, List.isEmpty_iff] at hf
        obtain ⟨a⟩ := a; obtain ⟨b⟩ := b
        simp only at hf
        obtain ⟨rfl, rfl⟩ := hf; rfl
      | _ => simp [flat0] at hf
    | pointer a => cases a <;> first | rfl | (simp [flat0] at hf)
    | slice a n c => cases a <;> first | rfl | (simp [flat0] at hf)
    | map a => cases a <;> first | rfl | (simp [flat0] at hf)
    | agg => simp [flat0] at hf
    | tuple => simp [flat0] at hf
    | _ => rfl
  conv => rhs; rw [← List.map_id l]
  exact List.map_congr_left this
theorem F15_ok (R : BF) (f : FuncId) (args : List Value) (s : St) (i : Inst) (h : F15 R f args s = some i) : Fits s i args ∧ (i.ask → CallOk Try.prog f i.args i.s0 i.val i.s1) := by
  unfold F15 at h
  split at h
  · rename_i hf
    have hf' : f = 32 := by simpa using hf
    subst hf'
    split at h
    · rename_i st b o g n c
      split at h
      · rename_i L tb hb
        split at h
        · rename_i hc
          obtain ⟨⟨h1, h2⟩, hgA⟩ := hc
          cases h
          have e1 : st = (sw.n5L st.toList).row.toArray := by rw [sw.n5L_row h1 h2]
          refine ⟨⟨?_, fun j pp ob k1 k2 => ?_⟩, fun ha => ?_⟩
          · have e2 : ∀ (ν δ : Nat → Nat), mv ν δ (.agg st) = .agg st := fun ν δ => by
              show Value.agg (st.toList.map _).toArray = _
              rw [mapL_flat (by rw [e1]; rfl)]
            show [Value.agg st, .slice (some ⟨b, o, g⟩) n c] = [mv _ _ (.agg st), if isAbs g = true then .slice (some ⟨0, 0, g⟩) n c else .slice (some ⟨b, addO o 0, g⟩) n c]
            rw [if_neg (by rw [hgA]; exact Bool.false_ne_true), e2, addO_eq]; rfl
          · rcases j with _ | j
            · simp only [List.getElem?_cons_zero, Option.some.injEq] at k1
              subst k1
              simp only [hB, List.getElem?_cons_zero, Option.some.injEq] at k2
              subst k2
              exact ⟨_, hb, fit_ints⟩
            · simp at k1
          · obtain ⟨rfl, rfl, q3⟩ := ha
            have := block_ok (sw.n5L st.toList) ((L.drop o).take 64) g c q3 hgA
            rw [← e1] at this
            exact this
        · cases h
      · cases h
    · cases h
  · cases h
end
end tb
end Go.Proofs.Ytphiebmgeiekaaa
namespace Go.Proofs.Ytphiebmgeiekaaa
open Go.ChangeShapes Go.WideShapes Go.ChangeAt Go.RowKit Go.Cln
namespace tb
open hc hx hy hz
set_option linter.unusedVariables false
noncomputable section
noncomputable def body : Code := loopB Try.prog 20 0
noncomputable def H (L X : List Int) (s : sw.N5) : Nat → Option Ob := fun i => match i with
  | 0 => some (.cells (.ints .u8 L) 5)
  | 1 => some (.cells (.lit (List.replicate 20 (.int .u8 0))) 26)
  | 22 => some (.cells (.ints .u8 X) 5)
  | 24 => some (.cells (.lit s.row) 66)
  | _ => none
noncomputable def hd (n c : Nat) (m : Nat) (i : Int) : List Value := [.slice (some ⟨0, 0, none⟩) n c, undef, P0 1 0, .slice (some ⟨22, 0, some 1⟩) m m, P0 24 0, .int .i64 i, undef, undef] ++ J 7 ++ [.agg F0.row.toArray]
noncomputable def E (L X : List Int) (n c : Nat) (m : Nat) (s : sw.N5) (i : Int) : St := ⟨hd n c m i ++ U 32, [], Tr.rebuild (H L X s) 25, 25, 1, [], fun _ => false, True, []⟩
noncomputable def R (L X : List Int) (n c : Nat) (m : Nat) (s : sw.N5) (i : Int) : St := ⟨hd n c m i ++ (J 6 ++ .agg (J 5).toArray :: (J 5 ++ .agg (J 5).toArray :: U 19)), [], Tr.rebuild (H L X s) 25, 25, 1, [], fun _ => false, True, []⟩
noncomputable def i' (i : Int) : Int := IntKind.i64.wrap (i + 64)
noncomputable def ww (X : List Int) (i : Int) : List Int := (X.drop (0 + i.toNat * 1)).take 64
noncomputable def pC (B : BF) (X : List Int) (m : Nat) (i : Int) : Prop := ((True ∧ decide (i < (m : Int)) = true) ∧ (0 ≤ i' i ∧ i' i ≤ (m : Int) ∧ 0 ≤ i ∧ i ≤ i' i)) ∧ (B = sw.blkR ∧ (i' i).toNat - i.toNat = 64 ∧ (ww X i).length = 64)
noncomputable def KL (B : BF) : Given := Given.frames Given.nothing (F15 B)
theorem KL_ok (B : BF) : GivenOk Try.prog (KL B) := (GivenOk.nothing _).frames (F15_ok B)
theorem kE (B : BF) (L X : List Int) (n c : Nat) (m : Nat) (s : sw.N5) (i : Int) (rd : Option Nat) : ((mk Try.prog (KL B) 200).code 20 rd body { E L X n c m s i with obl := True, orc := [some true, some true] }).map (fun r => (r.1, r.2.obl, seenIn r.2 (R L X n c m (B s (ch (ww X i))) (i' i)) [])) =
    some (.normal, pC B X m i, seenAs (R L X n c m (B s (ch (ww X i))) (i' i)) [] 25) := by kernel_rfl
theorem kR (B : BF) (L X : List Int) (n c : Nat) (m : Nat) (s : sw.N5) (i : Int) (rd : Option Nat) : ((mk Try.prog (KL B) 200).code 20 rd body { R L X n c m s i with obl := True, orc := [some true, some true] }).map (fun r => (r.1, r.2.obl, seenIn r.2 (R L X n c m (B s (ch (ww X i))) (i' i)) [])) =
    some (.normal, pC B X m i, seenAs (R L X n c m (B s (ch (ww X i))) (i' i)) [] 25) := by kernel_rfl
theorem kX (B : BF) (L X : List Int) (n c : Nat) (m : Nat) (s : sw.N5) (i : Int) (rd : Option Nat) : ((mk Try.prog (KL B) 200).code 20 rd body { R L X n c m s i with obl := True, orc := [some false] }).map (fun r => (r.1, r.2.obl, seenIn r.2 (R L X n c m s i) [])) =
    some (.exit 0, True ∧ decide (i < (m : Int)) = false, seenAs (R L X n c m s i) [] 25) := by kernel_rfl
theorem sE (B : BF) (L X : List Int) (n c : Nat) (m : Nat) (s : sw.N5) (i : Int) (rd : Option Nat) (hp : pC B X m i) : Step Try.prog rd (E L X n c m s i) body (E L X n c m s i) (fun e t => e = .normal ∧ t = R L X n c m (B s (ch (ww X i))) (i' i)) :=
  Step.std sw.pg (KL_ok B) (kE B L X n c m s i rd) hp (Nat.le_refl _) (g := H L X (B s (ch (ww X i)))) rfl (by kernel_rfl)
theorem sR (B : BF) (L X : List Int) (n c : Nat) (m : Nat) (s : sw.N5) (i : Int) (s0 : sw.N5) (i0 : Int) (rd : Option Nat) (hp : pC B X m i) : Step Try.prog rd (E L X n c m s0 i0) body (R L X n c m s i) (fun e t => e = .normal ∧ t = R L X n c m (B s (ch (ww X i))) (i' i)) :=
  Step.std sw.pg (KL_ok B) (kR B L X n c m s i rd) hp (Nat.le_refl _) (g := H L X (B s (ch (ww X i)))) rfl (by kernel_rfl)
theorem sX (B : BF) (L X : List Int) (n c : Nat) (m : Nat) (s : sw.N5) (i : Int) (s0 : sw.N5) (i0 : Int) (rd : Option Nat) (hp : True ∧ decide (i < (m : Int)) = false) : Step Try.prog rd (E L X n c m s0 i0) body (R L X n c m s i) (fun e t => e = .exit 0 ∧ t = R L X n c m s i) :=
  Step.std sw.pg (KL_ok B) (kX B L X n c m s i rd) hp (Nat.le_refl _) (g := H L X s) rfl (by kernel_rfl)
theorem loopF (L X : List Int) (n c : Nat) (m q : Nat) (s : sw.N5) (hm : m = X.length) (hq : m = 64 * q) (h1 : 1 ≤ q) (hs : q ≤ 1000000000) (rd : Option Nat) :
    CodeOk Try.prog rd (.loop body) (E L X n c m s 0) (.exit 0) (R L X n c m (fold sw.blkR s q X) ((m : Nat) : Int)) := by
  have wi : ∀ j : Nat, j < q → i' ((64 * j : Nat) : Int) = ((64 * (j + 1) : Nat) : Int) := fun j hj => by unfold i'; rw [IntKind.wrap_i64]; omega
  have we : ∀ j : Nat, ww X ((64 * j : Nat) : Int) = (X.drop (64 * j)).take 64 := fun j => by unfold ww; rw [Int.toNat_natCast, Nat.mul_one, Nat.zero_add]
  have pc : ∀ j : Nat, j < q → pC sw.blkR X m ((64 * j : Nat) : Int) := fun j hj => by
    refine ⟨⟨⟨trivial, by rw [decide_eq_true_eq]; omega⟩, ?_⟩, rfl, ?_, ?_⟩
    · rw [wi j hj]; omega
    · rw [wi j hj]; omega
    · rw [we, List.length_take, List.length_drop]; omega
  have fl : ∀ j : Nat, sw.blkR (fold sw.blkR s j X) (ch (ww X ((64 * j : Nat) : Int))) = fold sw.blkR s (j + 1) X := fun j => by
    rw [fold_last, we]; rfl
  refine CodeOk.of_step (Step.loop (fun f t => (f = q ∧ t = E L X n c m s 0) ∨ ∃ j, 1 ≤ j ∧ j ≤ q ∧ f = q - j ∧ t = R L X n c m (fold sw.blkR s j X) ((64 * j : Nat) : Int)) ?_ q _ (.inl ⟨rfl, rfl⟩))
  rintro f t (⟨rfl, rfl⟩ | ⟨j, g1, g2, rfl, rfl⟩)
  · refine (sE sw.blkR L X n c m s ((64 * 0 : Nat) : Int) rd (pc 0 (by omega))).mono ?_
    rintro e t ⟨rfl, rfl⟩
    exact .inl ⟨rfl, f - 1, by omega, .inr ⟨1, by omega, h1, rfl, by rw [wi 0 (by omega), ← fl 0]; rfl⟩⟩
  · by_cases hj : j = q
    · subst hj
      refine (sX sw.blkR L X n c m (fold sw.blkR s j X) ((64 * j : Nat) : Int) s 0 rd ⟨trivial, by rw [decide_eq_false_iff_not]; omega⟩).mono ?_
      rintro e t ⟨rfl, rfl⟩
      exact .inr ⟨(by intro x; cases x), rfl, by rw [hq]⟩
    · refine (sR sw.blkR L X n c m (fold sw.blkR s j X) ((64 * j : Nat) : Int) s 0 rd (pc j (by omega))).mono ?_
      rintro e t ⟨rfl, rfl⟩
      exact .inl ⟨rfl, q - (j + 1), by omega, .inr ⟨j + 1, by omega, by omega, rfl, by rw [wi j (by omega), fl]⟩⟩
end
end tb
end Go.Proofs.Ytphiebmgeiekaaa
namespace Go.Proofs.Ytphiebmgeiekaaa
open Go.ChangeShapes Go.WideShapes Go.ChangeAt Go.RowKit Go.Cln
namespace tb
open hc hx hy hz
set_option linter.unusedVariables false
noncomputable section
noncomputable def ask12 (S1 : St) (f : FuncId) (c : Code) (S : St) : Option Ask2 := if f == 20 then match getL S.tmps 6 with
  | .tuple _ => some ⟨⟨[8, 9, 10, 11, 12, 13, 14], [], [], [2, 21, 23]⟩, .exit 0, fun _ => S1⟩
  | _ => none else none
noncomputable def rb4 (w : Int) (j : Nat) : Int := IntKind.u8.wrap ((w.fdiv (2 ^ (8 * j))).tmod 256)
noncomputable def be4R (w : Int) : List Int := [rb4 w 3, rb4 w 2, rb4 w 1, rb4 w 0]
noncomputable def outR (X : sw.N5) : Value := .agg (vI (be4R X.a ++ (be4R X.b ++ (be4R X.c ++ (be4R X.d ++ be4R X.e))))).toArray
noncomputable def XX (L : List Int) (n : Nat) : List Int := ((((L.drop 0).take n)).drop 0).take (0 + n) ++ ((T n).drop 0).take (tl n)
noncomputable def mX (n : Nat) : Nat := 0 + n + tl n
noncomputable def K12 (S1 : St) : Given := Given.frames (Given.asking2 Given.nothing Try.prog (ask12 S1)) ta.F20
theorem K12_ok (S1 : St) : GivenOk Try.prog (K12 S1) := ((GivenOk.nothing _).asking2 (ask12 S1)).frames ta.F20_ok
noncomputable def r12 (L : List Int) (n c : Nat) (S1 : St) : Option (Value × St) := (mk Try.prog (K12 S1) 300).call 20 [.slice (some ⟨0, 0, none⟩) n c] (smSt 1 (hB L) [some false, some false])
noncomputable def S12 (L : List Int) (n c : Nat) (s : sw.N5) : St := R L (XX L n) n c (mX n) s ((mX n : Nat) : Int)
noncomputable def p12 (L : List Int) (n c : Nat) (s : sw.N5) : Prop := ((((((True ∧ decide (0 + n ≤ 0) = false) ∧ (0 + n ≤ L.length ∧ 0 + 0 ≤ 0 ∧ (0 + n) * 1 ≤ mostBytes ∧ 0 + n ≤ mostBytes)) ∧ n ≤ 1152921504606846976) ∧ decide (0 + n + tl n ≤ 0 + n) = false) ∧
  (0 + tl n ≤ (T n).length ∧ 0 + (0 + n) ≤ ((L.drop 0).take n).length ∧ (0 + n + tl n) * 1 ≤ mostBytes ∧ 0 + n + tl n ≤ mostBytes)) ∧ ∀ rd, CodeOk Try.prog rd (.loop body) (E L (XX L n) n c (mX n) F0 0) (.exit 0) (S12 L n c s))
end
end tb
end Go.Proofs.Ytphiebmgeiekaaa
namespace Go.Proofs.Ytphiebmgeiekaaa
open Go.ChangeShapes Go.WideShapes Go.ChangeAt Go.RowKit Go.Cln
namespace tb
open hc hx hy hz
set_option linter.unusedVariables false
noncomputable section
noncomputable def out12 (L : List Int) : List (Option Ob) := some (Ob.cells (.ints .u8 L) 5) :: List.replicate 25 none
theorem run12 (L : List Int) (n c : Nat) (s : sw.N5) : (r12 L n c (S12 L n c s)).map (fun r => (r.1, r.2.obl, r.2.next, keepL (true :: List.replicate 25 false) r.2.heap.get 0)) =
    some (outR s, p12 L n c s, (out12 L).length, out12 L) := by kernel_rfl
theorem rb4_eq {w : Int} (h : 0 ≤ w) (j : Nat) : rb4 w j = by8 w j := by
  have key : ∀ j, sh8 w j = w / 2 ^ (8 * j) := by
    intro j
    induction j with
    | zero => show w = _; omega
    | succ j ih =>
      show (sh8 w j).fdiv (2 ^ 8) = _
      rw [ih, Int.fdiv_eq_ediv_of_nonneg _ (by decide), Int.ediv_ediv_of_nonneg (by exact Int.pow_nonneg (by decide)), ← Int.pow_add]
      congr 1
  unfold rb4 by8
  rw [key, Int.fdiv_eq_ediv_of_nonneg _ (Int.pow_nonneg (by decide))]
  have hnn : 0 ≤ w / 2 ^ (8 * j) := Int.ediv_nonneg h (Int.pow_nonneg (by decide))
  rw [Int.tmod_eq_emod_of_nonneg hnn]
  generalize w / 2 ^ (8 * j) = x at hnn
  simp only [IntKind.wrap_u8]
  omega
theorem be4_eq {w : Int} (h : 0 ≤ w) : be4R w = be4 w := by unfold be4R be4; rw [rb4_eq h, rb4_eq h, rb4_eq h, rb4_eq h]
theorem out_eq {X : sw.N5} (h : sw.ok5 X) : outR X = outV X := by
  obtain ⟨h1, h2, h3, h4, h5⟩ := h
  unfold outR outV ot1
  rw [be4_eq h1.1, be4_eq h2.1, be4_eq h3.1, be4_eq h4.1, be4_eq h5.1]
theorem shaN_ok (M : List Int) : sw.ok5 (shaN M) := fold_ok blkR_ok F0_ok _ _
theorem sumR (L : List Int) (n c : Nat) (hn : n = L.length) (h0 : 0 < n) (h : n ≤ 1000000000) :
    CallOk Try.prog 20 [.slice (some ⟨0, 0, none⟩) n c] (smSt 1 (hB L) []) (outV (shaN L)) (smSt 1 (out12 L) []) := by
  obtain ⟨t1, t2, t3⟩ := tl_b n
  have hT := T_len n
  have ht : (L.drop 0).take n = L := by rw [List.drop_zero, hn, List.take_length]
  have eX : XX L n = L ++ T n := by
    unfold XX
    rw [ht, List.drop_zero, List.drop_zero, List.take_of_length_le (by omega), List.take_of_length_le (by omega)]
  have eq : (L.length + tl L.length) / 64 = (n + tl n) / 64 := by rw [← hn]
  have hp : p12 L n c (shaN L) := by
    refine ⟨⟨⟨⟨⟨⟨trivial, by rw [decide_eq_false_iff_not]; omega⟩, ?_⟩, by omega⟩, by rw [decide_eq_false_iff_not]; omega⟩, ?_⟩, fun rd => ?_⟩
    · unfold mostBytes; omega
    · rw [ht]; unfold mostBytes; omega
    · have := loopF L (XX L n) n c (mX n) ((n + tl n) / 64) F0 (by rw [eX, List.length_append, hT]; unfold mX; omega) (by unfold mX; omega) (by omega) (by omega) rd
      rw [eX] at this
      unfold S12 shaN
      rw [eX, eq, ← hn]
      exact this
  have := frame_by sw.pg (K12_ok _) _ (run12 L n c (shaN L)) hp (by rfl) rfl
  rw [out_eq (shaN_ok L)] at this
  exact this
def F12 (D : List Int → sw.N5) (f : FuncId) (args : List Value) (s : St) : Option Inst := if f == 20 then match args with
  | [.slice (some ⟨b, o, g⟩) n c] => match s.heap.get b with
    | some (.cells (.ints .u8 L) _) => if gOk g = true then some ⟨[(b, o)], 1, hB ((L.drop o).take n), [.slice (some ⟨0, 0, g⟩) n c], outV (D ((L.drop o).take n)), out12 ((L.drop o).take n), D = shaN ∧ n = ((L.drop o).take n).length ∧ 0 < n ∧ n ≤ 1000000000⟩ else none
    | _ => none
  | _ => none else none
theorem fit1 {s : St} {b o : Nat} {L : List Int} {tb : TypeId} {g : Option Nat} {n c : Nat} {i : Inst} (hb : s.heap.get b = some (.cells (.ints .u8 L) tb)) (hw : i.win = [(b, o)]) (hh : i.heap = hB ((L.drop o).take n)) (ha : i.args = [.slice (some ⟨0, 0, g⟩) n c]) (hg : gOk g = true) :
    Fits s i [.slice (some ⟨b, o, g⟩) n c] := by
  refine ⟨?_, fun j pp ob h1 h2 => ?_⟩
  · rw [ha]
    have e1 : i.nu s.next 0 = b := by unfold Inst.nu; rw [hw]; rfl
    have e2 : i.del 0 = o := by unfold Inst.del; rw [hw]; rfl
    have e : [Value.slice (some ⟨b, o, g⟩) n c] = [Value.slice (some ⟨i.nu s.next 0, addO (i.del 0) 0, g⟩) n c] := by rw [e1, e2, addO_eq]; rfl
    rcases gOk_eq hg with rfl | rfl <;> exact e
  · rw [hw] at h1
    rw [hh] at h2
    rcases j with _ | j
    · simp only [List.getElem?_cons_zero, Option.some.injEq] at h1
      subst h1
      simp only [hB, List.getElem?_cons_zero, Option.some.injEq] at h2
      subst h2
      exact ⟨_, hb, fit_ints⟩
    · simp at h1
theorem F12_ok (D : List Int → sw.N5) (f : FuncId) (args : List Value) (s : St) (i : Inst) (h : F12 D f args s = some i) : Fits s i args ∧ (i.ask → CallOk Try.prog f i.args i.s0 i.val i.s1) := by
  unfold F12 at h
  split at h
  · rename_i hf
    have hf' : f = 20 := by simpa using hf
    subst hf'
    split at h
    · rename_i b o g n c
      split at h
      · rename_i L tb hb
        split at h
        · rename_i hg
          cases h
          refine ⟨fit1 hb rfl rfl rfl hg, fun ha => ?_⟩
          obtain ⟨rfl, q1, q2, q3⟩ := ha
          rcases gOk_eq hg with rfl | rfl
          · exact sumR _ n c q1 q2 q3
          · exact CallOk.grow [] [] (fun c _ => sumR _ n c q1 q2 q3) c
        · cases h
      · cases h
    · cases h
  · cases h
def F11 (D : List Int → sw.N5) (f : FuncId) (args : List Value) (s : St) : Option Inst := if f == 15 then match args with
  | [.slice (some ⟨b, o, g⟩) n c] => match s.heap.get b with
    | some (.cells (.ints .u8 L) _) => if gOk g = true then some ⟨[(b, o)], 1, hB ((L.drop o).take n), [.slice (some ⟨0, 0, g⟩) n c], outV (D ((L.drop o).take n)), out11 ((L.drop o).take n), D = shaN ∧ Byt ((L.drop o).take n) ∧ n = ((L.drop o).take n).length ∧ n ≤ c ∧ n ≤ 1000000000⟩ else none
    | _ => none
  | _ => none else none
theorem F11_ok (D : List Int → sw.N5) (f : FuncId) (args : List Value) (s : St) (i : Inst) (h : F11 D f args s = some i) : Fits s i args ∧ (i.ask → CallOk Try.prog f i.args i.s0 i.val i.s1) := by
  unfold F11 at h
  split at h
  · rename_i hf
    have hf' : f = 15 := by simpa using hf
    subst hf'
    split at h
    · rename_i b o g n c
      split at h
      · rename_i L tb hb
        split at h
        · rename_i hg
          cases h
          refine ⟨fit1 hb rfl rfl rfl hg, fun ha => ?_⟩
          obtain ⟨rfl, q0, q1, q2, q3⟩ := ha
          exact sha_ok _ n c g (gOk_eq hg) q0 q1 q2 (by omega)
        · cases h
      · cases h
    · cases h
  · cases h
end
end tb
end Go.Proofs.Ytphiebmgeiekaaa
namespace Go.Proofs.Ytphiebmgeiekaaa
open Go.ChangeShapes Go.WideShapes Go.ChangeAt Go.RowKit Go.Cln
namespace tc
open hc hx hy hz tb
set_option linter.unusedVariables false
noncomputable section
noncomputable def r11z (D : HS → Nat → sw.N5) (g : Option Nat) (c : Nat) : Option (Value × St) := (mk Try.prog (KH AB D) 300).call 15 [.slice (some ⟨0, 0, g⟩) 0 c] (smSt 1 [none] [])
noncomputable def r11n (D : HS → Nat → sw.N5) : Option (Value × St) := (mk Try.prog (KH AB D) 300).call 15 [.slice none 0 0] (smSt 0 [] [])
noncomputable def FZ (B : BF) (f : FuncId) (args : List Value) (s : St) : Option Inst := match ta.F20 f args s with
  | some i => some i
  | none => F15 B f args s
theorem FZ_ok (B : BF) (f : FuncId) (args : List Value) (s : St) (i : Inst) (h : FZ B f args s = some i) : Fits s i args ∧ (i.ask → CallOk Try.prog f i.args i.s0 i.val i.s1) := by
  unfold FZ at h
  split at h
  · rename_i j h1
    cases h; exact ta.F20_ok f args s _ h1
  · exact F15_ok B f args s _ h
noncomputable def r12z (B : BF) (g : Option Nat) (c : Nat) : Option (Value × St) := (mk Try.prog (Given.frames Given.nothing (FZ B)) 300).call 20 [.slice (some ⟨0, 0, g⟩) 0 c] (smSt 1 [none] [])
noncomputable def r12n (B : BF) : Option (Value × St) := (mk Try.prog (Given.frames Given.nothing (FZ B)) 300).call 20 [.slice none 0 0] (smSt 0 [] [])
end
end tc
end Go.Proofs.Ytphiebmgeiekaaa
namespace Go.Proofs.Ytphiebmgeiekaaa
open Go.ChangeShapes Go.WideShapes Go.ChangeAt Go.RowKit Go.Cln
namespace tc
open hc hx hy hz tb
set_option linter.unusedVariables false
noncomputable section
noncomputable def p11z (D : HS → Nat → sw.N5) : Prop := True ∧ (D = DS ∧ 0 ≤ intAt l0 70 ∧ intAt l0 70 ≤ 1152921504606846976 ∧ intAt l0 64 = (((intAt l0 70).toNat % 64 : Nat) : Int))
noncomputable def nn (k : Nat) : List (Option Ob) := List.replicate k none
theorem run11za (D : HS → Nat → sw.N5) (c : Nat) : (r11z D none c).map (fun r => (r.1, r.2.obl, r.2.next, keepL (List.replicate 29 false) r.2.heap.get 0)) = some (outV (D (hOf l0) (intAt l0 70).toNat), p11z D, (nn 29).length, nn 29) := by kernel_rfl
theorem run11zb (D : HS → Nat → sw.N5) (c : Nat) : (r11z D (some 1) c).map (fun r => (r.1, r.2.obl, r.2.next, keepL (List.replicate 29 false) r.2.heap.get 0)) = some (outV (D (hOf l0) (intAt l0 70).toNat), p11z D, (nn 29).length, nn 29) := by kernel_rfl
theorem run11n (D : HS → Nat → sw.N5) : (r11n D).map (fun r => (r.1, r.2.obl, r.2.next, keepL (List.replicate 28 false) r.2.heap.get 0)) = some (outV (D (hOf l0) (intAt l0 70).toNat), p11z D, (nn 28).length, nn 28) := by kernel_rfl
theorem z_val : outV (DS (hOf l0) (intAt l0 70).toNat) = outV (shaN []) := by
  have := SemH.zero.DS (fun x hx => by cases hx)
  exact congrArg outV this
theorem p11z_ok : p11z DS := ⟨trivial, rfl, by decide, by decide, by decide⟩
noncomputable def YY : List Int := List.take (0 + 0) (List.drop 0 []) ++ List.take (tl 0) (List.drop 0 (T 0))
noncomputable def p12z (B : BF) : Prop := ((True ∧ 0 ≤ 1152921504606846976) ∧ (0 + tl 0 ≤ (T 0).length ∧ 0 + (0 + 0) ≤ 0 ∧ (0 + 0 + tl 0) * 1 ≤ mostBytes ∧ 0 + 0 + tl 0 ≤ mostBytes)) ∧ (B = sw.blkR ∧ (IntKind.i64.wrap (0 + 64)).toNat - Int.toNat 0 = 64 ∧ (List.take 64 (List.drop (0 + Int.toNat 0 * 1) YY)).length = 64)
theorem run12za (B : BF) (c : Nat) : (r12z B none c).map (fun r => (r.1, r.2.obl, r.2.next, keepL (List.replicate 25 false) r.2.heap.get 0)) = some (outR (B F0 (ch (List.take 64 (List.drop (0 + Int.toNat 0 * 1) YY)))), p12z B, (nn 25).length, nn 25) := by kernel_rfl
theorem run12zb (B : BF) (c : Nat) : (r12z B (some 1) c).map (fun r => (r.1, r.2.obl, r.2.next, keepL (List.replicate 25 false) r.2.heap.get 0)) = some (outR (B F0 (ch (List.take 64 (List.drop (0 + Int.toNat 0 * 1) YY)))), p12z B, (nn 25).length, nn 25) := by kernel_rfl
theorem run12n (B : BF) : (r12n B).map (fun r => (r.1, r.2.obl, r.2.next, keepL (List.replicate 24 false) r.2.heap.get 0)) = some (outR (B F0 (ch (List.take 64 (List.drop (0 + Int.toNat 0 * 1) YY)))), p12z B, (nn 24).length, nn 24) := by kernel_rfl
theorem YY_eq : List.take 64 (List.drop (0 + Int.toNat 0 * 1) YY) = T 0 := by
  have h := T_len 0
  have ht : tl 0 = 64 := by decide
  unfold YY
  simp only [Nat.add_zero, List.take_zero, List.nil_append, Int.toNat_zero, Nat.zero_mul, List.drop_zero]
  rw [ht, List.take_take, Nat.min_self, List.take_of_length_le (by omega)]
theorem p12z_ok : p12z sw.blkR := by
  have h := T_len 0
  have ht : tl 0 = 64 := by decide
  unfold p12z
  rw [YY_eq, h, ht]
  exact ⟨⟨⟨trivial, by decide⟩, by decide, by decide, by decide, by decide⟩, rfl, by decide, rfl⟩
theorem z_valR : outR (sw.blkR F0 (ch (List.take 64 (List.drop (0 + Int.toNat 0 * 1) YY)))) = outV (shaN []) := by
  rw [out_eq (blkR_ok _ _), YY_eq]
  have ht : tl 0 = 64 := by decide
  have e : shaN [] = sw.blkR F0 (ch ((T 0).take 64)) := by
    unfold shaN
    show fold sw.blkR F0 ((0 + tl 0) / 64) (T 0) = _
    rw [ht]; rfl
  rw [e, List.take_of_length_le (by rw [T_len, ht]; exact Nat.le_refl _)]
def FN (D : List Int → sw.N5) (f : FuncId) (args : List Value) (s : St) : Option Inst := if f == 15 then match args with
  | [.slice none 0 0] => some ⟨[], 0, [], [.slice none 0 0], outV (D []), nn 28, D = shaN⟩
  | [.slice (some ⟨b, o, g⟩) 0 c] => if gOk g = true then some ⟨[(b, o)], 1, [none], [.slice (some ⟨0, 0, g⟩) 0 c], outV (D []), nn 29, D = shaN⟩ else none
  | _ => none else if f == 20 then match args with
  | [.slice none 0 0] => some ⟨[], 0, [], [.slice none 0 0], outV (D []), nn 24, D = shaN⟩
  | [.slice (some ⟨b, o, g⟩) 0 c] => if gOk g = true then some ⟨[(b, o)], 1, [none], [.slice (some ⟨0, 0, g⟩) 0 c], outV (D []), nn 25, D = shaN⟩ else none
  | _ => none else none
theorem fitN {s : St} {b o : Nat} {g : Option Nat} {c : Nat} {i : Inst} (hw : i.win = [(b, o)]) (hh : i.heap = [none]) (ha : i.args = [.slice (some ⟨0, 0, g⟩) 0 c]) (hg : gOk g = true) : Fits s i [.slice (some ⟨b, o, g⟩) 0 c] := by
  refine ⟨?_, fun j pp ob h1 h2 => ?_⟩
  · rw [ha]
    have e1 : i.nu s.next 0 = b := by unfold Inst.nu; rw [hw]; rfl
    have e2 : i.del 0 = o := by unfold Inst.del; rw [hw]; rfl
    have e : [Value.slice (some ⟨b, o, g⟩) 0 c] = [Value.slice (some ⟨i.nu s.next 0, addO (i.del 0) 0, g⟩) 0 c] := by rw [e1, e2, addO_eq]; rfl
    rcases gOk_eq hg with rfl | rfl <;> exact e
  · rw [hh] at h2
    rcases j with _ | j
    · simp at h2
    · simp at h2
theorem FN_ok (D : List Int → sw.N5) (f : FuncId) (args : List Value) (s : St) (i : Inst) (h : FN D f args s = some i) : Fits s i args ∧ (i.ask → CallOk Try.prog f i.args i.s0 i.val i.s1) := by
  unfold FN at h
  split at h
  · rename_i hf
    have hf' : f = 15 := by simpa using hf
    subst hf'
    split at h
    · cases h
      refine ⟨⟨rfl, fun j p ob hp ho => by simp at hp⟩, fun ha => ?_⟩
      cases ha
      have := frame_by sw.pg (KH_ok AB DS) _ (run11n DS) p11z_ok (by rfl) rfl
      rw [z_val] at this; exact this
    · split at h
      · rename_i b o g c hg
        cases h
        refine ⟨fitN rfl rfl rfl hg, fun ha => ?_⟩
        cases ha
        rcases gOk_eq hg with rfl | rfl
        · have := frame_by sw.pg (KH_ok AB DS) _ (run11za DS c) p11z_ok (by rfl) rfl
          rw [z_val] at this; exact this
        · have := frame_by sw.pg (KH_ok AB DS) _ (run11zb DS c) p11z_ok (by rfl) rfl
          rw [z_val] at this; exact this
      · cases h
    · cases h
  · split at h
    · rename_i hf
      have hf' : f = 20 := by simpa using hf
      subst hf'
      split at h
      · cases h
        refine ⟨⟨rfl, fun j p ob hp ho => by simp at hp⟩, fun ha => ?_⟩
        cases ha
        have := frame_by sw.pg ((GivenOk.nothing _).frames (FZ_ok sw.blkR)) _ (run12n sw.blkR) p12z_ok (by rfl) rfl
        rw [z_valR] at this; exact this
      · split at h
        · rename_i b o g c hg
          cases h
          refine ⟨fitN rfl rfl rfl hg, fun ha => ?_⟩
          cases ha
          rcases gOk_eq hg with rfl | rfl
          · have := frame_by sw.pg ((GivenOk.nothing _).frames (FZ_ok sw.blkR)) _ (run12za sw.blkR c) p12z_ok (by rfl) rfl
            rw [z_valR] at this; exact this
          · have := frame_by sw.pg ((GivenOk.nothing _).frames (FZ_ok sw.blkR)) _ (run12zb sw.blkR c) p12z_ok (by rfl) rfl
            rw [z_valR] at this; exact this
        · cases h
      · cases h
    · cases h
def FD (D : List Int → sw.N5) (f : FuncId) (args : List Value) (s : St) : Option Inst := match F11 D f args s with
  | some i => some i
  | none => match F12 D f args s with
    | some i => some i
    | none => FN D f args s
theorem FD_ok (D : List Int → sw.N5) (f : FuncId) (args : List Value) (s : St) (i : Inst) (h : FD D f args s = some i) : Fits s i args ∧ (i.ask → CallOk Try.prog f i.args i.s0 i.val i.s1) := by
  unfold FD at h
  split at h
  · rename_i j h1
    cases h; exact F11_ok D f args s _ h1
  · split at h
    · rename_i j h1
      cases h; exact F12_ok D f args s _ h1
    · exact FN_ok D f args s _ h
end
end tc
end Go.Proofs.Ytphiebmgeiekaaa
namespace Go.Proofs.Ytphiebmgeiekaaa
open Go.ChangeShapes Go.WideShapes Go.ChangeAt Go.RowKit Go.Cln
namespace td
open hc hx hy hz tb tc
set_option linter.unusedVariables false
noncomputable section
noncomputable def w0 (sz : Int) : Int := IntKind.i64.wrap (sz + ((0 : Nat) : Int))
end
end td
end Go.Proofs.Ytphiebmgeiekaaa
