/- Read off the code by the clean reading. -/
import Derived.Test.YteknepfcbpoooabClnSa
import Derived.Test.YteknepfcbpoooabClnQc
set_option linter.unusedVariables false
set_option linter.unusedSimpArgs false
set_option linter.deprecated false
set_option maxRecDepth 100000
namespace Go.Proofs.Yteknepfcbpoooab
open Go.ChangeShapes Go.WideShapes Go.ChangeAt Go.RowKit Go.Cln
namespace sd
set_option linter.unusedVariables false
noncomputable section
def F33 (f : FuncId) (args : List Value) (s : St) : Option Inst := if f == 33 then match args with
  | [.pointer (some ⟨b, o, none⟩)] => match s.heap.get b with
    | some (.cells (.lit l) _) => match l[o]? with
      | some (.int .u64 t) => some ⟨[(b, o)], 1, sc.hC t, [P0 0 0], .int .u16 (sc.car t), sc.hC t, 0 ≤ t ∧ t < 18446744073709551616⟩
      | _ => none
    | _ => none
  | _ => none else none
theorem F33_ok (f : FuncId) (args : List Value) (s : St) (i : Inst) (h : F33 f args s = some i) : Fits s i args ∧ (i.ask → CallOk Try.prog f i.args i.s0 i.val i.s1) := by
  unfold F33 at h
  split at h
  · rename_i hf
    have hf' : f = 33 := by simpa using hf
    subst hf'
    split at h
    · rename_i b o
      split at h
      · rename_i l ty hb
        split at h
        · rename_i t ht
          cases h
          refine ⟨⟨?_, fun j p ob hp ho => ?_⟩, fun ha => sc.car_ok t ha.1 ha.2⟩
          · show [Value.pointer (some ⟨b, o, none⟩)] = [Value.pointer (some ⟨b, addO o 0, none⟩)]
            rw [addO_eq]; rfl
          · cases j with
            | zero =>
              simp only [List.getElem?_cons_zero, Option.some.injEq] at hp
              subst hp
              simp only [sc.hC, List.getElem?_cons_zero, Option.some.injEq] at ho
              subst ho
              exact ⟨_, hb, fit_one ht rfl rfl⟩
            | succ j => simp at hp
        · cases h
      · cases h
    · cases h
  · cases h
theorem K33 {K : Given} (h : GivenOk Try.prog K) : GivenOk Try.prog (Given.frames K F33) := h.frames F33_ok
def L43 (f : FuncId) (c : Code) (S : St) : Option Ask2 := if f == 43 then match getL S.tmps 13 with
  | .slice _ _ _ => some ⟨⟨[], [], [], []⟩, .exit 2, fun S => match getL S.tmps 13, S.heap.get 0, S.heap.get 2, S.heap.get 8, S.heap.get 9 with
    | .slice (some ⟨_, _, g⟩) n c, some (.cells (.ints _ L) _), some (.cells (.lit [.int _ tot]) _), some (.cells (.lit [.int _ hi]) _), some (.cells (.lit [.bool al]) _) => sr.X L n c g (sr.scan L n 0 tot hi al).1 (sr.scan L n 0 tot hi al).2.1 (sr.scan L n 0 tot hi al).2.2 n
    | _, _, _, _, _ => S⟩
  | _ => none else none
def hR (L : List Int) (n c : Nat) (g : Option Nat) : List (Option Ob) := [some (.cells (.ints .u8 L) 5), some (.cells (.lit [.slice (some ⟨0, 0, g⟩) n c]) 23)]
def nones (n : Nat) : List (Option Ob) := List.replicate n none
def ks : List Bool := true :: true :: List.replicate 12 false
end
end sd
end Go.Proofs.Yteknepfcbpoooab
namespace Go.Proofs.Yteknepfcbpoooab
open Go.ChangeShapes Go.WideShapes Go.ChangeAt Go.RowKit Go.Cln
namespace sd
set_option linter.unusedVariables false
noncomputable section
def wsum : List Int → Int
  | [] => 0
  | [a] => a * 256
  | a :: b :: r => a * 256 + b + wsum r
def Byt (l : List Int) : Prop := ∀ x ∈ l, 0 ≤ x ∧ x < 256
theorem wsum_bound : ∀ (l : List Int), Byt l → 0 ≤ wsum l ∧ wsum l ≤ 65536 * l.length
  | [], _ => by simp [wsum]
  | [a], h => by have := h a (by simp); simp [wsum]; omega
  | a :: b :: r, h => by
    have h1 := h a (by simp)
    have h2 := h b (by simp)
    have h3 := wsum_bound r (fun x hx => h x (by simp [hx]))
    simp only [wsum, List.length_cons]
    omega
theorem or8 {a b : Int} (ha : 0 ≤ a ∧ a < 256) (hb : 0 ≤ b ∧ b < 256) : orI .u16 (a * 256) (IntKind.u16.wrap b) = a * 256 + b := by
  have hw : IntKind.u16.wrap b = b := by rw [IntKind.wrap_u16]; omega
  rw [hw]
  unfold orI
  have e : (BitVec.ofInt IntKind.u16.bits (a * 256) ||| BitVec.ofInt IntKind.u16.bits b).toNat = a.toNat * 256 + b.toNat := by
    rw [BitVec.toNat_or]
    have e1 : (BitVec.ofInt IntKind.u16.bits (a * 256)).toNat = a.toNat <<< 8 := by
      rw [BitVec.toNat_ofInt, Nat.shiftLeft_eq]
      show (a * 256 % ((2 ^ 16 : Nat) : Int)).toNat = a.toNat * 2 ^ 8
      omega
    have e2 : (BitVec.ofInt IntKind.u16.bits b).toNat = b.toNat := by
      rw [BitVec.toNat_ofInt]
      show (b % ((2 ^ 16 : Nat) : Int)).toNat = b.toNat
      omega
    rw [e1, e2, ← Nat.shiftLeft_add_eq_or_of_lt (show b.toNat < 2 ^ 8 by omega), Nat.shiftLeft_eq]
  rw [e, IntKind.wrap_u16]
  omega
theorem hi1_eq {x : Int} (h : 0 ≤ x ∧ x < 256) : sr.hi1 x = x * 256 := by
  unfold sr.hi1
  rw [IntKind.wrap_u16, IntKind.wrap_u16]; omega
theorem tot2_eq {tot a b : Int} (ha : 0 ≤ a ∧ a < 256) (hb : 0 ≤ b ∧ b < 256) (h0 : 0 ≤ tot) (h1 : tot + 65536 < 18446744073709551616) : sr.tot2 tot (a * 256) b = tot + (a * 256 + b) := by
  unfold sr.tot2
  rw [or8 ha hb, IntKind.wrap_u64, IntKind.wrap_u64]; omega
def rt (r : Int × Int × Bool) : Int := if r.2.2 then r.1 + r.2.1 else r.1
theorem drop_take {L : List Int} {i k : Nat} (h : i < L.length) : (L.drop i).take (k + 1) = L.getD i 0 :: (L.drop (i + 1)).take k := by
  rw [List.drop_eq_getElem_cons h, List.take_succ_cons, List.getD_eq_getElem?_getD, List.getElem?_eq_getElem h]; rfl
theorem scan_eq {L : List Int} (hB : Byt L) : ∀ (k i : Nat), i + k ≤ L.length → ∀ (tot : Int), 0 ≤ tot → tot + 65536 * (k + 1) < 18446744073709551616 →
    (∀ hi, rt (sr.scan L k i tot hi false) = tot + wsum ((L.drop i).take k) ∧ ((sr.scan L k i tot hi false).2.2 = false → (sr.scan L k i tot hi false).1 = tot + wsum ((L.drop i).take k)) ∧ ((sr.scan L k i tot hi false).2.2 = true → 0 ≤ (sr.scan L k i tot hi false).2.1 ∧ (sr.scan L k i tot hi false).2.1 < 65536 ∧ 0 ≤ (sr.scan L k i tot hi false).1)) ∧
    ∀ a, 0 ≤ a ∧ a < 256 → rt (sr.scan L k i tot (a * 256) true) = tot + wsum (a :: (L.drop i).take k) ∧ ((sr.scan L k i tot (a * 256) true).2.2 = false → (sr.scan L k i tot (a * 256) true).1 = tot + wsum (a :: (L.drop i).take k)) ∧ ((sr.scan L k i tot (a * 256) true).2.2 = true → 0 ≤ (sr.scan L k i tot (a * 256) true).2.1 ∧ (sr.scan L k i tot (a * 256) true).2.1 < 65536 ∧ 0 ≤ (sr.scan L k i tot (a * 256) true).1)
  | 0, i, hle, tot, h0, h1 => by
    refine ⟨fun hi => ?_, fun a ha => ?_⟩
    · simp [sr.scan, rt, wsum]
    · simp [sr.scan, rt, wsum]; omega
  | k + 1, i, hle, tot, h0, h1 => by
    have hx : 0 ≤ L.getD i 0 ∧ L.getD i 0 < 256 := by
      rw [List.getD_eq_getElem?_getD, List.getElem?_eq_getElem (by omega)]
      exact hB _ (List.getElem_mem _)
    rw [drop_take (by omega)]
    refine ⟨fun hi => ?_, fun a ha => ?_⟩
    · have := (scan_eq hB k (i + 1) (by omega) tot h0 (by omega)).2 (L.getD i 0) hx
      simp only [sr.scan, hi1_eq hx]
      exact this
    · have e := tot2_eq ha hx h0 (by omega)
      have := (scan_eq hB k (i + 1) (by omega) (tot + (a * 256 + L.getD i 0)) (by omega) (by omega)).1 (a * 256)
      simp only [sr.scan, e]
      have e2 : tot + wsum (a :: L.getD i 0 :: (L.drop (i + 1)).take k) = tot + (a * 256 + L.getD i 0) + wsum ((L.drop (i + 1)).take k) := by
        simp only [wsum]; omega
      rw [e2]; exact this
end
end sd
end Go.Proofs.Yteknepfcbpoooab
namespace Go.Proofs.Yteknepfcbpoooab
open Go.ChangeShapes Go.WideShapes Go.ChangeAt Go.RowKit Go.Cln
namespace se
set_option linter.unusedVariables false
noncomputable section
def EH (t : Int) : Nat → Option Ob := fun i => match i with
  | _ => none
def E (t : Int) : St := ⟨[.int .i64 t, undef, .int .i64 0] ++ U 8, [], Tr.rebuild (EH t) 0, 0, 0, [], fun _ => false, True, []⟩
def RH (t : Int) : Nat → Option Ob := fun i => match i with
  | _ => none
def R (t : Int) : St := ⟨[.int .i64 t, undef, .int .i64 0, junk, .bool true] ++ J 5 ++ [undef], [], Tr.rebuild (RH t) 0, 0, 0, [], fun _ => false, True, []⟩
def XH (t : Int) : Nat → Option Ob := fun i => match i with
  | _ => none
def X (t : Int) : St := ⟨[.int .i64 t, undef, .int .i64 0, junk, .bool false] ++ J 5 ++ [undef], [], Tr.rebuild (XH t) 0, 0, 0, [], fun _ => false, True, []⟩
noncomputable def body : Code := loopB Try.prog 34 0
def nx (t : Int) : Int := IntKind.i64.wrap (t.tmod 65536 + IntKind.i64.wrap (t.tdiv 65536))
theorem eR (t t0 : Int) (rd : Option Nat) (hp : True ∧ decide (t ≥ 65536) = true) :
    Step Try.prog rd (E t0) body (E t) (fun e s => e = .normal ∧ s = R (nx t)) :=
  Step.std sr.pg (GivenOk.nothing _) (n := 200) (f := 34) (σ := []) (o := [some true]) (n1 := 0) (g := RH (nx t)) (by kernel_rfl) hp (Nat.le_refl _) rfl (by kernel_rfl)
theorem rR (t t0 : Int) (rd : Option Nat) (hp : True ∧ decide (t ≥ 65536) = true) :
    Step Try.prog rd (E t0) body (R t) (fun e s => e = .normal ∧ s = R (nx t)) :=
  Step.std sr.pg (GivenOk.nothing _) (n := 200) (f := 34) (σ := []) (o := [some true]) (n1 := 0) (g := RH (nx t)) (by kernel_rfl) hp (Nat.le_refl _) rfl (by kernel_rfl)
theorem rX (t t0 : Int) (rd : Option Nat) (hp : True ∧ decide (t ≥ 65536) = false) :
    Step Try.prog rd (E t0) body (R t) (fun e s => e = .exit 0 ∧ s = X t) :=
  Step.std sr.pg (GivenOk.nothing _) (n := 200) (f := 34) (σ := []) (o := [some false]) (n1 := 0) (g := XH t) (by kernel_rfl) hp (Nat.le_refl _) rfl (by kernel_rfl)
theorem nx_eq {t : Int} (h0 : 0 ≤ t) (h1 : t < 9223372036854775807) : nx t = t % 65536 + t / 65536 := by
  unfold nx
  rw [Int.tmod_eq_emod_of_nonneg h0, Int.tdiv_eq_ediv_of_nonneg h0, IntKind.wrap_i64, IntKind.wrap_i64]
  omega
theorem car_nx {t : Int} (h0 : 65536 ≤ t) (h1 : t < 9223372036854775807) : sc.car (nx t) = sc.car t ∧ 0 < nx t ∧ nx t < t := by
  rw [nx_eq (by omega) h1]
  refine ⟨?_, by omega, by omega⟩
  unfold sc.car
  rw [if_neg (by omega), if_neg (by omega)]
  omega
theorem loopC (t : Int) (rd : Option Nat) (h0 : 65536 ≤ t) (h1 : t < 9223372036854775807) : CodeOk Try.prog rd (.loop body) (E t) (.exit 0) (X (sc.car t)) := by
  refine CodeOk.of_step (Step.loop (fun k s => (k = t.toNat ∧ s = E t) ∨ ∃ x : Int, 0 < x ∧ x < t ∧ k = x.toNat ∧ s = R x ∧ sc.car x = sc.car t) ?_ t.toNat _ (.inl ⟨rfl, rfl⟩))
  rintro k s (⟨rfl, rfl⟩ | ⟨x, g1, g2, rfl, rfl, g3⟩)
  · refine (eR t t rd ⟨trivial, by rw [decide_eq_true_eq]; exact h0⟩).mono ?_
    rintro e s ⟨rfl, rfl⟩
    obtain ⟨q1, q2, q3⟩ := car_nx h0 h1
    exact .inl ⟨rfl, (nx t).toNat, by omega, .inr ⟨nx t, q2, q3, rfl, rfl, q1⟩⟩
  · by_cases hx : 65536 ≤ x
    · refine (rR x t rd ⟨trivial, by rw [decide_eq_true_eq]; exact hx⟩).mono ?_
      rintro e s ⟨rfl, rfl⟩
      obtain ⟨q1, q2, q3⟩ := car_nx hx (by omega)
      exact .inl ⟨rfl, (nx x).toNat, by omega, .inr ⟨nx x, q2, by omega, rfl, rfl, q1.trans g3⟩⟩
    · refine (rX x t rd ⟨trivial, by rw [decide_eq_false_iff_not]; omega⟩).mono ?_
      rintro e s ⟨rfl, rfl⟩
      refine .inr ⟨(by intro x; cases x), rfl, ?_⟩
      rw [← g3]
      have : sc.car x = x := by unfold sc.car; rw [if_neg (by omega)]; omega
      rw [this]
def L34 (f : FuncId) (c : Code) (S : St) : Option Ask2 := if f == 34 then some ⟨⟨[], [], [], []⟩, .exit 0, fun S => match getL S.tmps 0 with
  | .int _ t => X (sc.car t)
  | _ => S⟩ else none
theorem runA (t : Int) : ((mk Try.prog Given.nothing 100).call 34 [.int .i64 t] (smSt 0 [] [some false])).map (fun r => (r.1, r.2.obl, r.2.next, keepL [] r.2.heap.get 0)) = some (.int .i64 t, True ∧ decide (t ≥ 65536) = false, ([] : List (Option Ob)).length, []) := by kernel_rfl
theorem runB (t : Int) : ((mk Try.prog (Given.asking2 Given.nothing Try.prog L34) 100).call 34 [.int .i64 t] (smSt 0 [] [])).map (fun r => (r.1, r.2.obl, r.2.next, keepL [] r.2.heap.get 0)) = some (.int .i64 (sc.car t), True ∧ ∀ rd, CodeOk Try.prog rd (.loop body) (E t) (.exit 0) (X (sc.car t)), ([] : List (Option Ob)).length, []) := by kernel_rfl
theorem cry_ok (t : Int) (h0 : 0 ≤ t) (h1 : t < 9223372036854775807) : CallOk Try.prog 34 [.int .i64 t] (smSt 0 [] []) (.int .i64 (sc.car t)) (smSt 0 [] []) := by
  by_cases h : 65536 ≤ t
  · exact frame_by sr.pg (GivenOk.asking2 (GivenOk.nothing _) L34) [] (runB t) ⟨trivial, fun rd => loopC t rd h h1⟩ rfl rfl
  · have := frame_by sr.pg (GivenOk.nothing _) [] (runA t) ⟨trivial, by rw [decide_eq_false_iff_not]; omega⟩ rfl rfl
    have e : sc.car t = t := by unfold sc.car; split <;> omega
    rw [e]; exact this
def F34 (f : FuncId) (args : List Value) (s : St) : Option Inst := if f == 34 then match args with
  | [.int .i64 t] => some ⟨[], 0, [], [.int .i64 t], .int .i64 (sc.car t), [], 0 ≤ t ∧ t < 9223372036854775807⟩
  | _ => none else none
theorem F34_ok (f : FuncId) (args : List Value) (s : St) (i : Inst) (h : F34 f args s = some i) : Fits s i args ∧ (i.ask → CallOk Try.prog f i.args i.s0 i.val i.s1) := by
  unfold F34 at h
  split at h
  · rename_i hf
    have hf' : f = 34 := by simpa using hf
    subst hf'
    split at h
    · rename_i t
      cases h
      exact ⟨⟨rfl, fun j p ob hp ho => by simp at hp⟩, fun ha => cry_ok t ha.1 ha.2⟩
    · cases h
  · cases h
end
end se
end Go.Proofs.Yteknepfcbpoooab
namespace Go.Proofs.Yteknepfcbpoooab
open Go.ChangeShapes Go.WideShapes Go.ChangeAt Go.RowKit Go.Cln
namespace se
set_option linter.unusedVariables false
noncomputable section
namespace rr
def EH (L : List Int) (n c : Nat) (g : Option Nat) (a i : Int) : Nat → Option Ob := fun i => match i with
  | 0 => some (.cells (.ints .u8 L) 5)
  | _ => none
def E (L : List Int) (n c : Nat) (g : Option Nat) (a i : Int) : St := ⟨[.slice (some ⟨0, 0, g⟩) n c, undef, .int .u16 0, .int .i64 a, .int .i64 i] ++ U 31, [], Tr.rebuild (EH L n c g a i) 1, 1, 1, [], fun _ => false, True, []⟩
def RH (L : List Int) (n c : Nat) (g : Option Nat) (a i : Int) : Nat → Option Ob := fun i => match i with
  | 0 => some (.cells (.ints .u8 L) 5)
  | _ => none
def R (L : List Int) (n c : Nat) (g : Option Nat) (a i : Int) : St := ⟨[.slice (some ⟨0, 0, g⟩) n c, undef, .int .u16 0, .int .i64 a, .int .i64 i, junk, .slice (some ⟨0, 0, g⟩) n c, .int .i64 (n : Int)] ++ J 4 ++ [.slice (some ⟨0, 0, g⟩) n c] ++ J 8 ++ [.slice (some ⟨0, 0, g⟩) n c, .int .i64 (n : Int), junk, junk, .slice (some ⟨0, 0, g⟩) n c] ++ J 8 ++ [undef, undef], [], Tr.rebuild (RH L n c g a i) 1, 1, 1, [], fun _ => false, True, []⟩
def XH (L : List Int) (n c : Nat) (g : Option Nat) (a i : Int) : Nat → Option Ob := fun i => match i with
  | 0 => some (.cells (.ints .u8 L) 5)
  | _ => none
def X (L : List Int) (n c : Nat) (g : Option Nat) (a i : Int) : St := ⟨[.slice (some ⟨0, 0, g⟩) n c, undef, .int .u16 0, .int .i64 a, .int .i64 i, junk, .slice (some ⟨0, 0, g⟩) n c, .int .i64 (n : Int), .bool false] ++ J 3 ++ [.slice (some ⟨0, 0, g⟩) n c] ++ J 8 ++ [.slice (some ⟨0, 0, g⟩) n c, .int .i64 (n : Int), junk, junk, .slice (some ⟨0, 0, g⟩) n c] ++ J 8 ++ [undef, undef], [], Tr.rebuild (XH L n c g a i) 1, 1, 1, [], fun _ => false, True, []⟩
noncomputable def body : Code := loopB Try.prog 13 0
def KE : Given := Given.frames Given.nothing F34
theorem KE_ok : GivenOk Try.prog KE := (GivenOk.nothing _).frames F34_ok
def q8 (L : List Int) (i : Int) : Int := L.getD (0 + i.toNat * 1) 0
def w1 (i : Int) : Int := IntKind.i64.wrap (i + 1)
def a1 (L : List Int) (a i : Int) : Int := IntKind.i64.wrap (a + IntKind.i64.wrap (IntKind.i64.wrap (q8 L i) * 256))
def a2 (L : List Int) (a i : Int) : Int := IntKind.i64.wrap (a1 L a i + IntKind.i64.wrap (q8 L (w1 i)))
def w2 (i : Int) : Int := IntKind.i64.wrap (i + 2)
theorem rX (L : List Int) (n c : Nat) (a i : Int) (a0 : Int) (rd : Option Nat) (hp : True ∧ decide (i < (n : Int)) = false) :
    Step Try.prog rd (E L n c none a0 0) body (R L n c none a i) (fun e s => e = .exit 0 ∧ s = X L n c none a i) :=
  Step.std sr.pg KE_ok (n := 200) (f := 13) (σ := []) (o := [some false]) (n1 := 1) (g := XH L n c none a i) (by kernel_rfl) hp (Nat.le_refl _) rfl (by kernel_rfl)
end rr
end
end se
end Go.Proofs.Yteknepfcbpoooab
namespace Go.Proofs.Yteknepfcbpoooab
open Go.ChangeShapes Go.WideShapes Go.ChangeAt Go.RowKit Go.Cln
namespace se
namespace rr
set_option linter.unusedVariables false
noncomputable section
open sd
theorem car_b (x : Int) : 0 ≤ sc.car x ∧ sc.car x ≤ 65535 := by unfold sc.car; split <;> omega
theorem w1_eq {j n : Nat} (h : j < n) (hn : n ≤ 1099511627776) : w1 (j : Int) = ((j + 1 : Nat) : Int) := by unfold w1; rw [IntKind.wrap_i64]; omega
end
end rr
end se
end Go.Proofs.Yteknepfcbpoooab
