/- Read off the code by the clean reading. -/
import Derived.Test.YteknepfcbpoooaaClnSd
set_option linter.unusedVariables false
set_option linter.unusedSimpArgs false
set_option linter.deprecated false
set_option maxRecDepth 100000
namespace Go.Proofs.Yteknepfcbpoooaa
open Go.ChangeShapes Go.WideShapes Go.ChangeAt Go.RowKit Go.Cln
namespace ta
open hc hx hy hz
set_option linter.unusedVariables false
noncomputable section
noncomputable def body : Code := loopB Try.prog 20 0
noncomputable def vs (b : Nat) (g : Option Nat) (m : Nat) : Value := .slice (some ⟨b, 0, g⟩) m m
noncomputable def EH : Nat → Option Ob := fun i => match i with
  | 0 => some (.cells (.lit [.int .u8 128]) 5)
  | _ => none
noncomputable def E (n : Int) : St := ⟨[.int .i64 n, undef, .slice none 0 0, vs 0 none 1, undef, undef, vs 0 none 1] ++ U 27, [], Tr.rebuild EH 1, 1, 0, [], fun _ => false, True, []⟩
noncomputable def RH (X : List Int) : Nat → Option Ob := fun i => match i with
  | 0 => some (.cells (.lit [.int .u8 128]) 5)
  | 1 => some (.cells (.ints .u8 X) 5)
  | _ => none
noncomputable def R (n : Int) (X : List Int) (m : Nat) : St := ⟨[.int .i64 n, undef, .slice none 0 0, vs 1 (some 1) m, undef, undef, vs 0 none 1, .int .i64 n, junk, junk, junk, junk, .bool true, junk, junk, junk] ++ U 18, [], Tr.rebuild (RH X) 2, 2, 0, [], fun _ => false, True, []⟩
noncomputable def Z (n : Int) (X : List Int) (m : Nat) : St := ⟨[.int .i64 n, undef, .slice none 0 0, vs 1 (some 1) m, undef, undef, vs 0 none 1, .int .i64 n, junk, junk, junk, junk, .bool false, junk, junk, junk] ++ U 18, [], Tr.rebuild (RH X) 2, 2, 0, [], fun _ => false, True, []⟩
noncomputable def cd (n : Int) (m : Nat) (e : Bool) : Prop := True ∧ ((IntKind.i64.wrap (n + (m : Int))).tmod 64 != 56) = e
noncomputable def pR (n : Int) (X : List Int) (m : Nat) : Prop := (cd n m true ∧ decide (m + 1 ≤ m) = false) ∧ (0 + 1 ≤ 1 ∧ 0 + m ≤ X.length ∧ (m + 1) * 1 ≤ mostBytes ∧ m + 1 ≤ mostBytes)
theorem kE (n : Int) (rd : Option Nat) : ((mk Try.prog Given.nothing 200).code 20 rd body { E n with obl := True, orc := [some true] }).map (fun r => (r.1, r.2.obl, seenIn r.2 (R n [128, 0] 2) [0, 2])) = some (.normal, cd n 1 true, seenAs (R n [128, 0] 2) [0, 2] 3) := by kernel_rfl
theorem kR (n : Int) (X : List Int) (m : Nat) (rd : Option Nat) : ((mk Try.prog Given.nothing 200).code 20 rd body { R n X m with obl := True, orc := [some true, some false] }).map (fun r => (r.1, r.2.obl, seenIn r.2 (R n ((X.drop 0).take m ++ [0]) (m + 1)) [0, 3])) = some (.normal, pR n X m, seenAs (R n ((X.drop 0).take m ++ [0]) (m + 1)) [0, 3] 4) := by kernel_rfl
theorem kZ (n : Int) (X : List Int) (m : Nat) (rd : Option Nat) : ((mk Try.prog Given.nothing 200).code 20 rd body { R n X m with obl := True, orc := [some false] }).map (fun r => (r.1, r.2.obl, seenIn r.2 (Z n X m) [])) = some (.exit 0, cd n m false, seenAs (Z n X m) [] 2) := by kernel_rfl
theorem sE (n : Int) (rd : Option Nat) (hp : cd n 1 true) : Step Try.prog rd (E n) body (E n) (fun e t => e = .normal ∧ t = R n [128, 0] 2) :=
  Step.std sw.pg (GivenOk.nothing _) (kE n rd) hp (Nat.le_refl _) (g := RH [128, 0]) rfl (by kernel_rfl)
theorem sR (n : Int) (X : List Int) (m : Nat) (rd : Option Nat) (hp : pR n X m) : Step Try.prog rd (E n) body (R n X m) (fun e t => e = .normal ∧ t = R n ((X.drop 0).take m ++ [0]) (m + 1)) :=
  Step.std sw.pg (GivenOk.nothing _) (kR n X m rd) hp (show 1 ≤ 2 by decide) (g := RH ((X.drop 0).take m ++ [0])) rfl (by kernel_rfl)
theorem sZ (n : Int) (X : List Int) (m : Nat) (rd : Option Nat) (hp : cd n m false) : Step Try.prog rd (E n) body (R n X m) (fun e t => e = .exit 0 ∧ t = Z n X m) :=
  Step.std sw.pg (GivenOk.nothing _) (kZ n X m rd) hp (show 1 ≤ 2 by decide) (g := RH X) rfl (by kernel_rfl)
end
end ta
end Go.Proofs.Yteknepfcbpoooaa
namespace Go.Proofs.Yteknepfcbpoooaa
open Go.ChangeShapes Go.WideShapes Go.ChangeAt Go.RowKit Go.Cln
namespace ta
open hc hx hy hz
set_option linter.unusedVariables false
noncomputable section
noncomputable def N0 (j : Nat) : List Int := 128 :: List.replicate j 0
theorem N0_len (j : Nat) : (N0 j).length = j + 1 := by simp [N0]
theorem N0_next (j : Nat) : ((N0 j).drop 0).take (j + 1) ++ [0] = N0 (j + 1) := by
  rw [List.drop_zero, List.take_of_length_le (by rw [N0_len]; omega)]
  unfold N0
  rw [List.replicate_succ', List.cons_append]
theorem cd_of {n m : Nat} {e : Bool} (hn : n ≤ 1152921504606846976) (hm : m ≤ 100) (h : ((n + m) % 64 ≠ 56) = (e = true)) : cd (n : Int) m e := by
  refine ⟨trivial, ?_⟩
  have h1 : IntKind.i64.wrap ((n : Int) + (m : Int)) = ((n + m : Nat) : Int) := by rw [IntKind.wrap_i64]; omega
  have h2 : (((n + m : Nat) : Int)).tmod 64 = (((n + m) % 64 : Nat) : Int) := by rw [Int.tmod_eq_emod_of_nonneg (by omega)]; omega
  rw [h1, h2]
  cases e with
  | true => have : (n + m) % 64 ≠ 56 := by rw [h]
            simp only [bne_iff_ne, ne_eq]; omega
  | false => have : ¬ (n + m) % 64 ≠ 56 := by rw [h]; simp
             simp only [bne_eq_false_iff_eq]; omega
theorem pR_of {n j : Nat} (hn : n ≤ 1152921504606846976) (hj : j ≤ 70) (h : (n + (j + 1)) % 64 ≠ 56) : pR (n : Int) (N0 j) (j + 1) := by
  refine ⟨⟨cd_of hn (by omega) (by simp [h]), by rw [decide_eq_false_iff_not]; omega⟩, by omega, by rw [N0_len]; omega, ?_, ?_⟩ <;> unfold mostBytes <;> omega
theorem loopT (n k : Nat) (hn : n ≤ 1152921504606846976) (hk : k = tl n - 9) (h1 : 1 ≤ k) (rd : Option Nat) : CodeOk Try.prog rd (.loop body) (E (n : Int)) (.exit 0) (Z (n : Int) (N0 k) (k + 1)) := by
  have hb := tl_b n
  refine CodeOk.of_step (Step.loop (fun f t => (f = k ∧ t = E (n : Int)) ∨ ∃ j, 1 ≤ j ∧ j ≤ k ∧ f = k - j ∧ t = R (n : Int) (N0 j) (j + 1)) ?_ k _ (.inl ⟨rfl, rfl⟩))
  rintro f t (⟨rfl, rfl⟩ | ⟨j, g1, g2, rfl, rfl⟩)
  · refine (sE (n : Int) rd (cd_of hn (by omega) (by simp; omega))).mono ?_
    rintro e t ⟨rfl, rfl⟩
    exact .inl ⟨rfl, f - 1, by omega, .inr ⟨1, by omega, h1, rfl, rfl⟩⟩
  · by_cases hj : j = k
    · subst hj
      refine (sZ (n : Int) (N0 j) (j + 1) rd (cd_of hn (by omega) (by simp; omega))).mono ?_
      rintro e t ⟨rfl, rfl⟩
      exact .inr ⟨(by intro x; cases x), rfl, rfl⟩
    · refine (sR (n : Int) (N0 j) (j + 1) rd (pR_of hn (by omega) (by omega))).mono ?_
      rintro e t ⟨rfl, rfl⟩
      exact .inl ⟨rfl, k - (j + 1), by omega, .inr ⟨j + 1, by omega, by omega, rfl, by rw [N0_next]⟩⟩
noncomputable def ask20 (n : Int) (X : List Int) (m : Nat) (f : FuncId) (c : Code) (S : St) : Option Ask2 := if f == 20 then match getL S.tmps 5 with
  | .tuple _ => some ⟨⟨[], [], [], []⟩, .exit 0, fun _ => Z n X m⟩
  | _ => none else none
noncomputable def rb (n : Int) (i : Nat) : Int := IntKind.u8.wrap (((IntKind.u64.wrap (IntKind.u64.wrap n * 8)).fdiv (2 ^ (8 * i))).tmod 256)
structure Ap where
  X : List Int
  m : Nat
  p : Prop
noncomputable def ap (a : Ap) (b : Int) : Ap := ⟨(a.X.drop 0).take a.m ++ [b], a.m + 1, (a.p ∧ decide (a.m + 1 ≤ a.m) = false) ∧ (0 + 1 ≤ 1 ∧ 0 + a.m ≤ a.X.length ∧ (a.m + 1) * 1 ≤ mostBytes ∧ a.m + 1 ≤ mostBytes)⟩
noncomputable def ap8 (n : Int) (a : Ap) : Ap := ap (ap (ap (ap (ap (ap (ap (ap a (rb n 7)) (rb n 6)) (rb n 5)) (rb n 4)) (rb n 3)) (rb n 2)) (rb n 1)) (rb n 0)
noncomputable def fin (n : Int) (X : List Int) (m : Nat) (p : Prop) : Ap := ap8 n ⟨X, m, p⟩
noncomputable def o20 : List (Option Bool) := [none, some false, none, some false, none, some false, none, some false, none, some false, none, some false, none, some false, none, some false]
noncomputable def r20 (n : Int) (X : List Int) (m : Nat) : Option (Value × St) := (mk Try.prog (Given.asking2 Given.nothing Try.prog (ask20 n X m)) 300).call 20 [.int .i64 n] (smSt 0 [] o20)
noncomputable def r20z (n : Int) : Option (Value × St) := (mk Try.prog Given.nothing 300).call 20 [.int .i64 n] (smSt 0 [none] [some false])
noncomputable def ks17 : List Bool := List.replicate 17 false ++ [true]
noncomputable def h17 (X : List Int) : List (Option Ob) := List.replicate 17 none ++ [some (Ob.cells (.ints .u8 X) 5)]
theorem run20 (n : Int) (X : List Int) (m : Nat) : (r20 n X m).map (fun r => (r.1, r.2.obl, r.2.next, keepL ks17 r.2.heap.get 0)) =
    some (vs 17 (some 1) (m + 8), (fin n X m (True ∧ ∀ rd, CodeOk Try.prog rd (.loop body) (E n) (.exit 0) (Z n X m))).p, (h17 (fin n X m True).X).length, h17 (fin n X m True).X) := by kernel_rfl
noncomputable def L9 (n : Int) : List Int := [128, rb n 7, rb n 6, rb n 5, rb n 4, rb n 3, rb n 2, rb n 1, rb n 0]
noncomputable def h17z (X : List Int) : List (Option Ob) := List.replicate 17 none ++ [some (Ob.cells (.lit (X.map (Value.int .u8))) 5)]
theorem run20z (n : Int) : (r20z n).map (fun r => (r.1, r.2.obl, r.2.next, keepL ks17 r.2.heap.get 0)) =
    some (vs 17 (some 1) 9, cd n 1 false, (h17z (L9 n)).length, h17z (L9 n)) := by kernel_rfl
end
end ta
end Go.Proofs.Yteknepfcbpoooaa
namespace Go.Proofs.Yteknepfcbpoooaa
open Go.ChangeShapes Go.WideShapes Go.ChangeAt Go.RowKit Go.Cln
namespace ta
open hc hx hy hz
set_option linter.unusedVariables false
noncomputable section
theorem sh8_eq {n : Nat} : ∀ j, sh8 ((n : Int) * 8) j = ((n : Int) * 8) / 2 ^ (8 * j)
  | 0 => by show (n : Int) * 8 = _; omega
  | j + 1 => by
    show (sh8 ((n : Int) * 8) j).fdiv (2 ^ 8) = _
    rw [sh8_eq j, Int.fdiv_eq_ediv_of_nonneg _ (by decide), Int.ediv_ediv_of_nonneg (by exact Int.pow_nonneg (by decide)), ← Int.pow_add]
    congr 1
theorem rb_eq {n : Nat} (h : n ≤ 1152921504606846976) (j : Nat) : rb (n : Int) j = by8 ((n : Int) * 8) j := by
  unfold rb by8
  have hx : IntKind.u64.wrap (IntKind.u64.wrap (n : Int) * 8) = (n : Int) * 8 := by rw [IntKind.wrap_u64, IntKind.wrap_u64]; omega
  rw [sh8_eq j, hx, Int.fdiv_eq_ediv_of_nonneg _ (Int.pow_nonneg (by decide))]
  have hnn : 0 ≤ (n : Int) * 8 / 2 ^ (8 * j) := Int.ediv_nonneg (by omega) (Int.pow_nonneg (by decide))
  rw [Int.tmod_eq_emod_of_nonneg hnn]
  generalize (n : Int) * 8 / 2 ^ (8 * j) = x at hnn
  simp only [IntKind.wrap_u8]
  omega
theorem ap_ok {a : Ap} {b : Int} {Y : List Int} (hX : a.X = Y) (hm : a.m = Y.length) (hs : Y.length ≤ 1000) (hp : a.p) : (ap a b).X = Y ++ [b] ∧ (ap a b).m = (Y ++ [b]).length ∧ (ap a b).p := by
  obtain ⟨X, m, p⟩ := a
  simp only at hX hm hp
  subst hX; subst hm
  unfold ap
  refine ⟨?_, ?_, ⟨hp, ?_⟩, ?_⟩
  · simp only; rw [List.drop_zero, List.take_length]
  · simp
  · rw [decide_eq_false_iff_not]; simp only; omega
  · refine ⟨by omega, by simp, ?_, ?_⟩ <;> unfold mostBytes <;> simp only <;> omega
theorem fin_ok {n : Int} {X : List Int} {p : Prop} (hs : X.length ≤ 900) (hp : p) : (fin n X X.length p).X = X ++ [rb n 7, rb n 6, rb n 5, rb n 4, rb n 3, rb n 2, rb n 1, rb n 0] ∧ (fin n X X.length p).p := by
  unfold fin ap8
  obtain ⟨a1, a2, a3⟩ := ap_ok (a := ⟨X, X.length, p⟩) (b := rb n 7) rfl rfl (show X.length ≤ 1000 by omega) hp
  obtain ⟨b1, b2, b3⟩ := ap_ok (b := rb n 6) a1 a2 (by simp; omega) a3
  obtain ⟨c1, c2, c3⟩ := ap_ok (b := rb n 5) b1 b2 (by simp; omega) b3
  obtain ⟨d1, d2, d3⟩ := ap_ok (b := rb n 4) c1 c2 (by simp; omega) c3
  obtain ⟨e1, e2, e3⟩ := ap_ok (b := rb n 3) d1 d2 (by simp; omega) d3
  obtain ⟨f1, f2, f3⟩ := ap_ok (b := rb n 2) e1 e2 (by simp; omega) e3
  obtain ⟨g1, g2, g3⟩ := ap_ok (b := rb n 1) f1 f2 (by simp; omega) f3
  obtain ⟨h1, h2, h3⟩ := ap_ok (b := rb n 0) g1 g2 (by simp; omega) g3
  refine ⟨?_, h3⟩
  rw [h1]
  simp only [List.append_assoc, List.cons_append, List.nil_append]
theorem T_eq {n : Nat} (h : n ≤ 1152921504606846976) : N0 (tl n - 9) ++ [rb n 7, rb n 6, rb n 5, rb n 4, rb n 3, rb n 2, rb n 1, rb n 0] = T n := by
  unfold N0 T be8
  simp only [rb_eq h, List.cons_append]
theorem tailR (n : Nat) (h : n ≤ 1152921504606846976) : CallOk Try.prog 20 [.int .i64 (n : Int)] (smSt 0 [] []) (vs 17 (some 1) (tl n)) (smSt 0 (h17 (T n)) []) := by
  have hb := tl_b n
  by_cases hk : tl n = 9
  · have h1 := frame_by sw.pg (GivenOk.nothing _) ks17 (run20z (n : Int)) (cd_of h (by omega) (by simp; omega)) (by rfl) rfl
    have h2 := h1.base (l := []) 1 (by decide) (by decide)
    have e : L9 (n : Int) = T n := by
      rw [← T_eq h, hk]; rfl
    rw [e] at h2
    rw [hk]
    refine h2.sub trivial ⟨rfl, rfl, rfl, rfl, fun b o hb => ?_⟩ fun b hb => ?_
    · have hb' : (Tr.ofL (h17 (T n))).get b = some o := hb
      rw [ofL_get (by simp [h17])] at hb'
      have hlt : b < 18 := by
        rcases Nat.lt_or_ge b 18 with h3 | h3
        · exact h3
        · unfold hget at hb'
          rw [List.getElem?_eq_none (by simpa [h17] using h3)] at hb'
          cases hb'
      by_cases h17b : b = 17
      · subst h17b
        have e1 : hget (h17 (T n)) 17 = some (Ob.cells (.ints .u8 (T n)) 5) := rfl
        rw [e1] at hb'
        cases hb'
        refine ⟨.cells (.lit ((T n).map (Value.int .u8))) 5, ?_, ints_sub _ _ _ _⟩
        show (Tr.ofL (h17z (T n))).get 17 = _
        rw [ofL_get (by simp [h17z])]; rfl
      · exfalso
        have : hget (h17 (T n)) b = none := by
          unfold hget h17
          rw [List.getElem?_append_left (by simp; omega), List.getElem?_replicate]
          rw [if_pos (by omega)]
        rw [this] at hb'; cases hb'
    · unfold St.may at hb
      simp [smSt] at hb
  · have hs : (N0 (tl n - 9)).length ≤ 900 := by rw [N0_len]; omega
    obtain ⟨e1, e2⟩ := fin_ok (n := (n : Int)) (X := N0 (tl n - 9)) (p := True ∧ ∀ rd, CodeOk Try.prog rd (.loop body) (E (n : Int)) (.exit 0) (Z (n : Int) (N0 (tl n - 9)) (tl n - 9 + 1))) hs ⟨trivial, fun rd => loopT n _ h rfl (by omega) rd⟩
    obtain ⟨e3, _⟩ := fin_ok (n := (n : Int)) (X := N0 (tl n - 9)) (p := True) hs trivial
    rw [N0_len] at e1 e2 e3
    have := frame_by sw.pg (GivenOk.asking2 (GivenOk.nothing _) _) ks17 (run20 (n : Int) (N0 (tl n - 9)) (tl n - 9 + 1)) e2 (by rfl) rfl
    rw [e3, T_eq h, show tl n - 9 + 1 + 8 = tl n by omega] at this
    exact this
def F20 (f : FuncId) (args : List Value) (s : St) : Option Inst := if f == 20 then match args with
  | [.int .i64 (.ofNat n)] => some ⟨[], 0, [], [.int .i64 (n : Int)], vs 17 (some 1) (tl n), h17 (T n), n ≤ 1152921504606846976⟩
  | _ => none else none
theorem F20_ok (f : FuncId) (args : List Value) (s : St) (i : Inst) (h : F20 f args s = some i) : Fits s i args ∧ (i.ask → CallOk Try.prog f i.args i.s0 i.val i.s1) := by
  unfold F20 at h
  split at h
  · rename_i hf
    have hf' : f = 20 := by simpa using hf
    subst hf'
    split at h
    · cases h
      exact ⟨⟨rfl, fun j p ob hp ho => by simp at hp⟩, fun ha => tailR _ ha⟩
    · cases h
  · cases h
end
end ta
end Go.Proofs.Yteknepfcbpoooaa
