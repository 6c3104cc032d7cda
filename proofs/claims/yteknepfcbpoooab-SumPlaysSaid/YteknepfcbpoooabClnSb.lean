/- Read off the code by the clean reading. -/
import Derived.Test.YteknepfcbpoooabClnSa
import Derived.Test.YteknepfcbpoooabClnQc
set_option linter.unusedVariables false
set_option linter.unusedSimpArgs false
set_option linter.deprecated false
set_option maxRecDepth 100000
namespace Go.Proofs.Yteknepfcbpoooab
open Go.ChangeShapes Go.WideShapes Go.ChangeAt Go.RowKit Go.Cln
namespace sd
set_option linter.unusedVariables false
noncomputable section
def F33 (f : FuncId) (args : List Value) (s : St) : Option Inst := if f == 33 then match args with
  | [.pointer (some ⟨b, o, none⟩)] => match s.heap.get b with
    | some (.cells (.lit l) _) => match l[o]? with
      | some (.int .u64 t) => some ⟨[(b, o)], 1, sc.hC t, [P0 0 0], .int .u16 (sc.car t), sc.hC t, 0 ≤ t ∧ t < 18446744073709551616⟩
      | _ => none
    | _ => none
  | _ => none else none
theorem F33_ok (f : FuncId) (args : List Value) (s : St) (i : Inst) (h : F33 f args s = some i) : Fits s i args ∧ (i.ask → CallOk Try.prog f i.args i.s0 i.val i.s1) := by
  unfold F33 at h
  split at h
  · rename_i hf
    have hf' : f = 33 := by simpa using hf
    subst hf'
    split at h
    · rename_i b o
      split at h
      · rename_i l ty hb
        split at h
        · rename_i t ht
          cases h
          refine ⟨⟨?_, fun j p ob hp ho => ?_⟩, fun ha => sc.car_ok t ha.1 ha.2⟩
          · show [Value.pointer (some ⟨b, o, none⟩)] = [Value.pointer (some ⟨b, addO o 0, none⟩)]
            rw [addO_eq]; rfl
          · cases j with
            | zero =>
              simp only [List.getElem?_cons_zero, Option.some.injEq] at hp
              subst hp
              simp only [sc.hC, List.getElem?_cons_zero, Option.some.injEq] at ho
              subst ho
              exact ⟨_, hb, fit_one ht rfl rfl⟩
            | succ j => simp at hp
        · cases h
      · cases h
    · cases h
  · cases h
theorem K33 {K : Given} (h : GivenOk Try.prog K) : GivenOk Try.prog (Given.frames K F33) := h.frames F33_ok
/-- the inner loop, one part -/
def L43 (f : FuncId) (c : Code) (S : St) : Option Ask2 := if f == 43 then match getL S.tmps 13 with
  | .slice _ _ _ => some ⟨⟨[], [], [], []⟩, .exit 2, fun S => match getL S.tmps 13, S.heap.get 0, S.heap.get 2, S.heap.get 8, S.heap.get 9 with
    | .slice (some ⟨_, _, g⟩) n c, some (.cells (.ints _ L) _), some (.cells (.lit [.int _ tot]) _), some (.cells (.lit [.int _ hi]) _), some (.cells (.lit [.bool al]) _) => sr.X L n c g (sr.scan L n 0 tot hi al).1 (sr.scan L n 0 tot hi al).2.1 (sr.scan L n 0 tot hi al).2.2 n
    | _, _, _, _, _ => S⟩
  | _ => none else none
def KR : Given := Given.frames (Given.asking2 Given.nothing Try.prog L43) F33
def hR (L : List Int) (n c : Nat) (g : Option Nat) : List (Option Ob) := [some (.cells (.ints .u8 L) 5), some (.cells (.lit [.slice (some ⟨0, 0, g⟩) n c]) 23)]
def nones (n : Nat) : List (Option Ob) := List.replicate n none
def sc0 (L : List Int) (n : Nat) : Int × Int × Bool := sr.scan L n 0 0 0 false
def ks : List Bool := true :: true :: List.replicate 12 false
theorem runF (L : List Int) (n c : Nat) : ((mk Try.prog KR 200).call 12 [.slice (some ⟨1, 0, none⟩) 1 1] (smSt 2 (hR L n c none) [none, none, none, some false])).map (fun r => (r.1, r.2.obl, r.2.next, keepL ks r.2.heap.get 0)) =
    some (.int .u16 (sc.car (sc0 L n).1), (((True ∧ ∀ rd, CodeOk Try.prog rd (.loop sr.bodyI) (sr.E L n c none 0 0 false 0) (.exit 2) (sr.X L n c none (sc0 L n).1 (sc0 L n).2.1 (sc0 L n).2.2 n)) ∧ (sc0 L n).2.2 = false) ∧ (0 ≤ (sc0 L n).1 ∧ (sc0 L n).1 < 18446744073709551616)), (hR L n c none ++ nones 12).length, hR L n c none ++ nones 12) := by kernel_rfl
def tt (L : List Int) (n : Nat) : Int := IntKind.u64.wrap ((sc0 L n).1 + IntKind.u64.wrap (sc0 L n).2.1)
theorem runT (L : List Int) (n c : Nat) : ((mk Try.prog KR 200).call 12 [.slice (some ⟨1, 0, none⟩) 1 1] (smSt 2 (hR L n c none) [none, none, none, some true])).map (fun r => (r.1, r.2.obl, r.2.next, keepL ks r.2.heap.get 0)) =
    some (.int .u16 (sc.car (tt L n)), (((True ∧ ∀ rd, CodeOk Try.prog rd (.loop sr.bodyI) (sr.E L n c none 0 0 false 0) (.exit 2) (sr.X L n c none (sc0 L n).1 (sc0 L n).2.1 (sc0 L n).2.2 n)) ∧ (sc0 L n).2.2 = true) ∧ (0 ≤ tt L n ∧ tt L n < 18446744073709551616)), (hR L n c none ++ nones 12).length, hR L n c none ++ nones 12) := by kernel_rfl
end
end sd
end Go.Proofs.Yteknepfcbpoooab
namespace Go.Proofs.Yteknepfcbpoooab
open Go.ChangeShapes Go.WideShapes Go.ChangeAt Go.RowKit Go.Cln
namespace sd
set_option linter.unusedVariables false
noncomputable section
def wsum : List Int → Int
  | [] => 0
  | [a] => a * 256
  | a :: b :: r => a * 256 + b + wsum r
def Byt (l : List Int) : Prop := ∀ x ∈ l, 0 ≤ x ∧ x < 256
theorem wsum_bound : ∀ (l : List Int), Byt l → 0 ≤ wsum l ∧ wsum l ≤ 65536 * l.length
  | [], _ => by simp [wsum]
  | [a], h => by have := h a (by simp); simp [wsum]; omega
  | a :: b :: r, h => by
    have h1 := h a (by simp)
    have h2 := h b (by simp)
    have h3 := wsum_bound r (fun x hx => h x (by simp [hx]))
    simp only [wsum, List.length_cons]
    omega
theorem or8 {a b : Int} (ha : 0 ≤ a ∧ a < 256) (hb : 0 ≤ b ∧ b < 256) : orI .u16 (a * 256) (IntKind.u16.wrap b) = a * 256 + b := by
  have hw : IntKind.u16.wrap b = b := by rw [IntKind.wrap_u16]; omega
  rw [hw]
  unfold orI
  have e : (BitVec.ofInt IntKind.u16.bits (a * 256) ||| BitVec.ofInt IntKind.u16.bits b).toNat = a.toNat * 256 + b.toNat := by
    rw [BitVec.toNat_or]
    have e1 : (BitVec.ofInt IntKind.u16.bits (a * 256)).toNat = a.toNat <<< 8 := by
      rw [BitVec.toNat_ofInt, Nat.shiftLeft_eq]
      show (a * 256 % ((2 ^ 16 : Nat) : Int)).toNat = a.toNat * 2 ^ 8
      omega
    have e2 : (BitVec.ofInt IntKind.u16.bits b).toNat = b.toNat := by
      rw [BitVec.toNat_ofInt]
      show (b % ((2 ^ 16 : Nat) : Int)).toNat = b.toNat
      omega
    rw [e1, e2, ← Nat.shiftLeft_add_eq_or_of_lt (show b.toNat < 2 ^ 8 by omega), Nat.shiftLeft_eq]
  rw [e, IntKind.wrap_u16]
  omega
theorem hi1_eq {x : Int} (h : 0 ≤ x ∧ x < 256) : sr.hi1 x = x * 256 := by
  unfold sr.hi1
  rw [IntKind.wrap_u16, IntKind.wrap_u16]; omega
theorem tot2_eq {tot a b : Int} (ha : 0 ≤ a ∧ a < 256) (hb : 0 ≤ b ∧ b < 256) (h0 : 0 ≤ tot) (h1 : tot + 65536 < 18446744073709551616) : sr.tot2 tot (a * 256) b = tot + (a * 256 + b) := by
  unfold sr.tot2
  rw [or8 ha hb, IntKind.wrap_u64, IntKind.wrap_u64]; omega
def rt (r : Int × Int × Bool) : Int := if r.2.2 then r.1 + r.2.1 else r.1
theorem drop_take {L : List Int} {i k : Nat} (h : i < L.length) : (L.drop i).take (k + 1) = L.getD i 0 :: (L.drop (i + 1)).take k := by
  rw [List.drop_eq_getElem_cons h, List.take_succ_cons, List.getD_eq_getElem?_getD, List.getElem?_eq_getElem h]; rfl
theorem scan_eq {L : List Int} (hB : Byt L) : ∀ (k i : Nat), i + k ≤ L.length → ∀ (tot : Int), 0 ≤ tot → tot + 65536 * (k + 1) < 18446744073709551616 →
    (∀ hi, rt (sr.scan L k i tot hi false) = tot + wsum ((L.drop i).take k) ∧ ((sr.scan L k i tot hi false).2.2 = false → (sr.scan L k i tot hi false).1 = tot + wsum ((L.drop i).take k)) ∧ ((sr.scan L k i tot hi false).2.2 = true → 0 ≤ (sr.scan L k i tot hi false).2.1 ∧ (sr.scan L k i tot hi false).2.1 < 65536 ∧ 0 ≤ (sr.scan L k i tot hi false).1)) ∧
    ∀ a, 0 ≤ a ∧ a < 256 → rt (sr.scan L k i tot (a * 256) true) = tot + wsum (a :: (L.drop i).take k) ∧ ((sr.scan L k i tot (a * 256) true).2.2 = false → (sr.scan L k i tot (a * 256) true).1 = tot + wsum (a :: (L.drop i).take k)) ∧ ((sr.scan L k i tot (a * 256) true).2.2 = true → 0 ≤ (sr.scan L k i tot (a * 256) true).2.1 ∧ (sr.scan L k i tot (a * 256) true).2.1 < 65536 ∧ 0 ≤ (sr.scan L k i tot (a * 256) true).1)
  | 0, i, hle, tot, h0, h1 => by
    refine ⟨fun hi => ?_, fun a ha => ?_⟩
    · simp [sr.scan, rt, wsum]
    · simp [sr.scan, rt, wsum]; omega
  | k + 1, i, hle, tot, h0, h1 => by
    have hx : 0 ≤ L.getD i 0 ∧ L.getD i 0 < 256 := by
      rw [List.getD_eq_getElem?_getD, List.getElem?_eq_getElem (by omega)]
      exact hB _ (List.getElem_mem _)
    rw [drop_take (by omega)]
    refine ⟨fun hi => ?_, fun a ha => ?_⟩
    · have := (scan_eq hB k (i + 1) (by omega) tot h0 (by omega)).2 (L.getD i 0) hx
      simp only [sr.scan, hi1_eq hx]
      exact this
    · have e := tot2_eq ha hx h0 (by omega)
      have := (scan_eq hB k (i + 1) (by omega) (tot + (a * 256 + L.getD i 0)) (by omega) (by omega)).1 (a * 256)
      simp only [sr.scan, e]
      have e2 : tot + wsum (a :: L.getD i 0 :: (L.drop (i + 1)).take k) = tot + (a * 256 + L.getD i 0) + wsum ((L.drop (i + 1)).take k) := by
        simp only [wsum]; omega
      rw [e2]; exact this
theorem raw1 (L : List Int) (n c : Nat) (hB : Byt L) (h0 : 0 < n) (hn : n = L.length) (hs : n ≤ 1099511627776) :
    CallOk Try.prog 12 [.slice (some ⟨1, 0, none⟩) 1 1] (smSt 2 (hR L n c none) []) (.int .u16 (sc.car (wsum L))) (smSt 2 (hR L n c none ++ nones 12) []) := by
  obtain ⟨s1, s2, s3⟩ := (scan_eq hB n 0 (by omega) 0 (by omega) (by omega)).1 0
  have et : (L.drop 0).take n = L := by rw [List.drop_zero, hn, List.take_length]
  rw [et] at s1 s2
  have hb := wsum_bound L hB
  have lp := fun rd => sr.loopI L n c 0 0 false rd h0 (by omega) (by omega)
  cases hal : (sc0 L n).2.2 with
  | false =>
    have e : (sc0 L n).1 = wsum L := by have := s2 hal; unfold sc0; omega
    have := frame_by sr.pg (K33 (GivenOk.asking2 (GivenOk.nothing _) L43)) ks (runF L n c) ⟨⟨⟨trivial, lp⟩, hal⟩, by rw [e]; omega⟩ rfl rfl
    rw [e] at this; exact this
  | true =>
    obtain ⟨q1, q2, q3⟩ := s3 hal
    have e : tt L n = wsum L := by
      unfold rt at s1
      have hal' : (sr.scan L n 0 0 0 false).2.2 = true := hal
      rw [hal', if_pos rfl] at s1
      unfold tt sc0
      rw [IntKind.wrap_u64, IntKind.wrap_u64]; omega
    have := frame_by sr.pg (K33 (GivenOk.asking2 (GivenOk.nothing _) L43)) ks (runT L n c) ⟨⟨⟨trivial, lp⟩, hal⟩, by rw [e]; omega⟩ rfl rfl
    rw [e] at this; exact this
end
end sd
end Go.Proofs.Yteknepfcbpoooab
namespace Go.Proofs.Yteknepfcbpoooab
open Go.ChangeShapes Go.WideShapes Go.ChangeAt Go.RowKit Go.Cln
namespace se
set_option linter.unusedVariables false
noncomputable section
def EH (t : Int) : Nat → Option Ob := fun i => match i with
  | _ => none
def E (t : Int) : St := ⟨[.int .i64 t, undef, .int .i64 0] ++ U 8, [], Tr.rebuild (EH t) 0, 0, 0, [], fun _ => false, True, []⟩
def RH (t : Int) : Nat → Option Ob := fun i => match i with
  | _ => none
def R (t : Int) : St := ⟨[.int .i64 t, undef, .int .i64 0, junk, .bool true] ++ J 5 ++ [undef], [], Tr.rebuild (RH t) 0, 0, 0, [], fun _ => false, True, []⟩
def XH (t : Int) : Nat → Option Ob := fun i => match i with
  | _ => none
def X (t : Int) : St := ⟨[.int .i64 t, undef, .int .i64 0, junk, .bool false] ++ J 5 ++ [undef], [], Tr.rebuild (XH t) 0, 0, 0, [], fun _ => false, True, []⟩
noncomputable def body : Code := loopB Try.prog 34 0
def nx (t : Int) : Int := IntKind.i64.wrap (t.tmod 65536 + IntKind.i64.wrap (t.tdiv 65536))
theorem eR (t t0 : Int) (rd : Option Nat) (hp : True ∧ decide (t ≥ 65536) = true) :
    Step Try.prog rd (E t0) body (E t) (fun e s => e = .normal ∧ s = R (nx t)) :=
  Step.std sr.pg (GivenOk.nothing _) (n := 200) (f := 34) (σ := []) (o := [some true]) (n1 := 0) (g := RH (nx t)) (by kernel_rfl) hp (Nat.le_refl _) rfl (by kernel_rfl)
theorem rR (t t0 : Int) (rd : Option Nat) (hp : True ∧ decide (t ≥ 65536) = true) :
    Step Try.prog rd (E t0) body (R t) (fun e s => e = .normal ∧ s = R (nx t)) :=
  Step.std sr.pg (GivenOk.nothing _) (n := 200) (f := 34) (σ := []) (o := [some true]) (n1 := 0) (g := RH (nx t)) (by kernel_rfl) hp (Nat.le_refl _) rfl (by kernel_rfl)
theorem rX (t t0 : Int) (rd : Option Nat) (hp : True ∧ decide (t ≥ 65536) = false) :
    Step Try.prog rd (E t0) body (R t) (fun e s => e = .exit 0 ∧ s = X t) :=
  Step.std sr.pg (GivenOk.nothing _) (n := 200) (f := 34) (σ := []) (o := [some false]) (n1 := 0) (g := XH t) (by kernel_rfl) hp (Nat.le_refl _) rfl (by kernel_rfl)

theorem nx_eq {t : Int} (h0 : 0 ≤ t) (h1 : t < 9223372036854775807) : nx t = t % 65536 + t / 65536 := by
  unfold nx
  rw [Int.tmod_eq_emod_of_nonneg h0, Int.tdiv_eq_ediv_of_nonneg h0, IntKind.wrap_i64, IntKind.wrap_i64]
  omega
theorem car_nx {t : Int} (h0 : 65536 ≤ t) (h1 : t < 9223372036854775807) : sc.car (nx t) = sc.car t ∧ 0 < nx t ∧ nx t < t := by
  rw [nx_eq (by omega) h1]
  refine ⟨?_, by omega, by omega⟩
  unfold sc.car
  rw [if_neg (by omega), if_neg (by omega)]
  omega
theorem loopC (t : Int) (rd : Option Nat) (h0 : 65536 ≤ t) (h1 : t < 9223372036854775807) : CodeOk Try.prog rd (.loop body) (E t) (.exit 0) (X (sc.car t)) := by
  refine CodeOk.of_step (Step.loop (fun k s => (k = t.toNat ∧ s = E t) ∨ ∃ x : Int, 0 < x ∧ x < t ∧ k = x.toNat ∧ s = R x ∧ sc.car x = sc.car t) ?_ t.toNat _ (.inl ⟨rfl, rfl⟩))
  rintro k s (⟨rfl, rfl⟩ | ⟨x, g1, g2, rfl, rfl, g3⟩)
  · refine (eR t t rd ⟨trivial, by rw [decide_eq_true_eq]; exact h0⟩).mono ?_
    rintro e s ⟨rfl, rfl⟩
    obtain ⟨q1, q2, q3⟩ := car_nx h0 h1
    exact .inl ⟨rfl, (nx t).toNat, by omega, .inr ⟨nx t, q2, q3, rfl, rfl, q1⟩⟩
  · by_cases hx : 65536 ≤ x
    · refine (rR x t rd ⟨trivial, by rw [decide_eq_true_eq]; exact hx⟩).mono ?_
      rintro e s ⟨rfl, rfl⟩
      obtain ⟨q1, q2, q3⟩ := car_nx hx (by omega)
      exact .inl ⟨rfl, (nx x).toNat, by omega, .inr ⟨nx x, q2, by omega, rfl, rfl, q1.trans g3⟩⟩
    · refine (rX x t rd ⟨trivial, by rw [decide_eq_false_iff_not]; omega⟩).mono ?_
      rintro e s ⟨rfl, rfl⟩
      refine .inr ⟨(by intro x; cases x), rfl, ?_⟩
      rw [← g3]
      have : sc.car x = x := by unfold sc.car; rw [if_neg (by omega)]; omega
      rw [this]
def L34 (f : FuncId) (c : Code) (S : St) : Option Ask2 := if f == 34 then some ⟨⟨[], [], [], []⟩, .exit 0, fun S => match getL S.tmps 0 with
  | .int _ t => X (sc.car t)
  | _ => S⟩ else none
theorem runA (t : Int) : ((mk Try.prog Given.nothing 100).call 34 [.int .i64 t] (smSt 0 [] [some false])).map (fun r => (r.1, r.2.obl, r.2.next, keepL [] r.2.heap.get 0)) = some (.int .i64 t, True ∧ decide (t ≥ 65536) = false, ([] : List (Option Ob)).length, []) := by kernel_rfl
theorem runB (t : Int) : ((mk Try.prog (Given.asking2 Given.nothing Try.prog L34) 100).call 34 [.int .i64 t] (smSt 0 [] [])).map (fun r => (r.1, r.2.obl, r.2.next, keepL [] r.2.heap.get 0)) = some (.int .i64 (sc.car t), True ∧ ∀ rd, CodeOk Try.prog rd (.loop body) (E t) (.exit 0) (X (sc.car t)), ([] : List (Option Ob)).length, []) := by kernel_rfl
theorem cry_ok (t : Int) (h0 : 0 ≤ t) (h1 : t < 9223372036854775807) : CallOk Try.prog 34 [.int .i64 t] (smSt 0 [] []) (.int .i64 (sc.car t)) (smSt 0 [] []) := by
  by_cases h : 65536 ≤ t
  · exact frame_by sr.pg (GivenOk.asking2 (GivenOk.nothing _) L34) [] (runB t) ⟨trivial, fun rd => loopC t rd h h1⟩ rfl rfl
  · have := frame_by sr.pg (GivenOk.nothing _) [] (runA t) ⟨trivial, by rw [decide_eq_false_iff_not]; omega⟩ rfl rfl
    have e : sc.car t = t := by unfold sc.car; split <;> omega
    rw [e]; exact this
def F34 (f : FuncId) (args : List Value) (s : St) : Option Inst := if f == 34 then match args with
  | [.int .i64 t] => some ⟨[], 0, [], [.int .i64 t], .int .i64 (sc.car t), [], 0 ≤ t ∧ t < 9223372036854775807⟩
  | _ => none else none
theorem F34_ok (f : FuncId) (args : List Value) (s : St) (i : Inst) (h : F34 f args s = some i) : Fits s i args ∧ (i.ask → CallOk Try.prog f i.args i.s0 i.val i.s1) := by
  unfold F34 at h
  split at h
  · rename_i hf
    have hf' : f = 34 := by simpa using hf
    subst hf'
    split at h
    · rename_i t
      cases h
      exact ⟨⟨rfl, fun j p ob hp ho => by simp at hp⟩, fun ha => cry_ok t ha.1 ha.2⟩
    · cases h
  · cases h
end
end se
end Go.Proofs.Yteknepfcbpoooab
namespace Go.Proofs.Yteknepfcbpoooab
open Go.ChangeShapes Go.WideShapes Go.ChangeAt Go.RowKit Go.Cln
namespace se
set_option linter.unusedVariables false
noncomputable section
namespace rr
def EH (L : List Int) (n c : Nat) (g : Option Nat) (a i : Int) : Nat → Option Ob := fun i => match i with
  | 0 => some (.cells (.ints .u8 L) 5)
  | _ => none
def E (L : List Int) (n c : Nat) (g : Option Nat) (a i : Int) : St := ⟨[.slice (some ⟨0, 0, g⟩) n c, undef, .int .u16 0, .int .i64 a, .int .i64 i] ++ U 31, [], Tr.rebuild (EH L n c g a i) 1, 1, 1, [], fun _ => false, True, []⟩
def RH (L : List Int) (n c : Nat) (g : Option Nat) (a i : Int) : Nat → Option Ob := fun i => match i with
  | 0 => some (.cells (.ints .u8 L) 5)
  | _ => none
def R (L : List Int) (n c : Nat) (g : Option Nat) (a i : Int) : St := ⟨[.slice (some ⟨0, 0, g⟩) n c, undef, .int .u16 0, .int .i64 a, .int .i64 i, junk, .slice (some ⟨0, 0, g⟩) n c, .int .i64 (n : Int)] ++ J 4 ++ [.slice (some ⟨0, 0, g⟩) n c] ++ J 8 ++ [.slice (some ⟨0, 0, g⟩) n c, .int .i64 (n : Int), junk, junk, .slice (some ⟨0, 0, g⟩) n c] ++ J 8 ++ [undef, undef], [], Tr.rebuild (RH L n c g a i) 1, 1, 1, [], fun _ => false, True, []⟩
def XH (L : List Int) (n c : Nat) (g : Option Nat) (a i : Int) : Nat → Option Ob := fun i => match i with
  | 0 => some (.cells (.ints .u8 L) 5)
  | _ => none
def X (L : List Int) (n c : Nat) (g : Option Nat) (a i : Int) : St := ⟨[.slice (some ⟨0, 0, g⟩) n c, undef, .int .u16 0, .int .i64 a, .int .i64 i, junk, .slice (some ⟨0, 0, g⟩) n c, .int .i64 (n : Int), .bool false] ++ J 3 ++ [.slice (some ⟨0, 0, g⟩) n c] ++ J 8 ++ [.slice (some ⟨0, 0, g⟩) n c, .int .i64 (n : Int), junk, junk, .slice (some ⟨0, 0, g⟩) n c] ++ J 8 ++ [undef, undef], [], Tr.rebuild (XH L n c g a i) 1, 1, 1, [], fun _ => false, True, []⟩
noncomputable def body : Code := loopB Try.prog 13 0
def KE : Given := Given.frames Given.nothing F34
theorem KE_ok : GivenOk Try.prog KE := (GivenOk.nothing _).frames F34_ok
def q8 (L : List Int) (i : Int) : Int := L.getD (0 + i.toNat * 1) 0
def w1 (i : Int) : Int := IntKind.i64.wrap (i + 1)
def a1 (L : List Int) (a i : Int) : Int := IntKind.i64.wrap (a + IntKind.i64.wrap (IntKind.i64.wrap (q8 L i) * 256))
def a2 (L : List Int) (a i : Int) : Int := IntKind.i64.wrap (a1 L a i + IntKind.i64.wrap (q8 L (w1 i)))
def inN (n : Nat) (i : Int) : Prop := 0 ≤ i ∧ i < (n : Int)
def in8 (L : List Int) (i : Int) : Prop := 0 + i.toNat * 1 < L.length
def pE (L : List Int) (n : Nat) (a i : Int) : Prop := ((((((True ∧ decide (i < (n : Int)) = true) ∧ inN n i) ∧ in8 L i) ∧ decide (w1 i < (n : Int)) = true) ∧ inN n (w1 i)) ∧ in8 L (w1 i)) ∧ (0 ≤ a2 L a i ∧ a2 L a i < 9223372036854775807)
def pO (L : List Int) (n : Nat) (a i : Int) : Prop := ((((True ∧ decide (i < (n : Int)) = true) ∧ inN n i) ∧ in8 L i) ∧ decide (w1 i < (n : Int)) = false) ∧ (0 ≤ a1 L a i ∧ a1 L a i < 9223372036854775807)
def w2 (i : Int) : Int := IntKind.i64.wrap (i + 2)
theorem eE (L : List Int) (n c : Nat) (a i : Int) (a0 : Int) (rd : Option Nat) (hp : pE L n a i) :
    Step Try.prog rd (E L n c none a0 0) body (E L n c none a i) (fun e s => e = .normal ∧ s = R L n c none (sc.car (a2 L a i)) (w2 i)) :=
  Step.std sr.pg KE_ok (n := 200) (f := 13) (σ := []) (o := List.replicate 6 (some true)) (n1 := 1) (g := RH L n c none (sc.car (a2 L a i)) (w2 i)) (by kernel_rfl) hp (Nat.le_refl _) rfl (by kernel_rfl)
theorem rE (L : List Int) (n c : Nat) (a i : Int) (a0 : Int) (rd : Option Nat) (hp : pE L n a i) :
    Step Try.prog rd (E L n c none a0 0) body (R L n c none a i) (fun e s => e = .normal ∧ s = R L n c none (sc.car (a2 L a i)) (w2 i)) :=
  Step.std sr.pg KE_ok (n := 200) (f := 13) (σ := []) (o := List.replicate 6 (some true)) (n1 := 1) (g := RH L n c none (sc.car (a2 L a i)) (w2 i)) (by kernel_rfl) hp (Nat.le_refl _) rfl (by kernel_rfl)
theorem rO (L : List Int) (n c : Nat) (a i : Int) (a0 : Int) (rd : Option Nat) (hp : pO L n a i) :
    Step Try.prog rd (E L n c none a0 0) body (R L n c none a i) (fun e s => e = .normal ∧ s = R L n c none (sc.car (a1 L a i)) (w2 i)) :=
  Step.std sr.pg KE_ok (n := 200) (f := 13) (σ := []) (o := [some true, some true, some true, some false]) (n1 := 1) (g := RH L n c none (sc.car (a1 L a i)) (w2 i)) (by kernel_rfl) hp (Nat.le_refl _) rfl (by kernel_rfl)
theorem rX (L : List Int) (n c : Nat) (a i : Int) (a0 : Int) (rd : Option Nat) (hp : True ∧ decide (i < (n : Int)) = false) :
    Step Try.prog rd (E L n c none a0 0) body (R L n c none a i) (fun e s => e = .exit 0 ∧ s = X L n c none a i) :=
  Step.std sr.pg KE_ok (n := 200) (f := 13) (σ := []) (o := [some false]) (n1 := 1) (g := XH L n c none a i) (by kernel_rfl) hp (Nat.le_refl _) rfl (by kernel_rfl)
end rr
end
end se
end Go.Proofs.Yteknepfcbpoooab
namespace Go.Proofs.Yteknepfcbpoooab
open Go.ChangeShapes Go.WideShapes Go.ChangeAt Go.RowKit Go.Cln
namespace se
namespace rr
set_option linter.unusedVariables false
noncomputable section
open sd
theorem car_add {x y : Int} (hx : 0 ≤ x) (hy : 0 ≤ y) : sc.car (sc.car x + y) = sc.car (x + y) := by
  unfold sc.car
  by_cases h : x ≤ 0
  · rw [if_pos h]; have : x = 0 := by omega
    subst this; rfl
  · rw [if_neg h, if_neg (by omega), if_neg (by omega)]; omega
theorem car_b (x : Int) : 0 ≤ sc.car x ∧ sc.car x ≤ 65535 := by unfold sc.car; split <;> omega
theorem wsum_even : ∀ (l r : List Int), l.length % 2 = 0 → wsum (l ++ r) = wsum l + wsum r
  | [], r, _ => by simp [wsum]
  | [a], r, h => by simp at h
  | a :: b :: l, r, h => by
    have := wsum_even l r (by simp at h; omega)
    simp only [List.cons_append, wsum, this]; omega
theorem take2 {L : List Int} {i : Nat} (h : i + 1 < L.length) : L.take (i + 2) = L.take i ++ [L.getD i 0, L.getD (i + 1) 0] := by
  rw [show i + 2 = (i + 1) + 1 by omega, List.take_add_one, List.take_add_one]
  rw [getD_some (show i < L.length by omega), getD_some h]
  simp
theorem take1 {L : List Int} {i : Nat} (h : i < L.length) : L.take (i + 1) = L.take i ++ [L.getD i 0] := by
  rw [List.take_add_one, getD_some h]; rfl
theorem q8_eq (L : List Int) (j : Nat) : q8 L (j : Int) = L.getD j 0 := by unfold q8; rw [show 0 + (j : Int).toNat * 1 = j by omega]
theorem w1_eq {j n : Nat} (h : j < n) (hn : n ≤ 1099511627776) : w1 (j : Int) = ((j + 1 : Nat) : Int) := by unfold w1; rw [IntKind.wrap_i64]; omega
theorem w2_eq {j n : Nat} (h : j < n) (hn : n ≤ 1099511627776) : w2 (j : Int) = ((j + 2 : Nat) : Int) := by unfold w2; rw [IntKind.wrap_i64]; omega
theorem byt_at {L : List Int} (hB : Byt L) {j : Nat} (h : j < L.length) : 0 ≤ L.getD j 0 ∧ L.getD j 0 < 256 := by
  rw [List.getD_eq_getElem?_getD, List.getElem?_eq_getElem h]
  exact hB _ (List.getElem_mem _)
theorem byt_take {L : List Int} (hB : Byt L) (j : Nat) : Byt (L.take j) := fun x hx => hB x (List.mem_of_mem_take hx)
theorem even_ok {L : List Int} {n j : Nat} (hB : Byt L) (hn : n = L.length) (hs : n ≤ 1099511627776) (h : j + 1 < n) (he : j % 2 = 0) {a : Int} (ha : a = sc.car (wsum (L.take j))) :
    pE L n a (j : Int) ∧ sc.car (a2 L a j) = sc.car (wsum (L.take (j + 2))) := by
  have b1 := byt_at hB (show j < L.length by omega)
  have b2 := byt_at hB (show j + 1 < L.length by omega)
  have c := car_b (wsum (L.take j))
  have e : a2 L a j = sc.car (wsum (L.take j)) + (L.getD j 0 * 256 + L.getD (j + 1) 0) := by
    unfold a2 a1
    rw [w1_eq (show j < n by omega) hs, q8_eq, q8_eq, ha]
    rw [IntKind.wrap_i64, IntKind.wrap_i64, IntKind.wrap_i64, IntKind.wrap_i64, IntKind.wrap_i64]
    omega
  refine ⟨?_, ?_⟩
  · unfold pE inN in8
    rw [e, w1_eq (show j < n by omega) hs]
    refine ⟨⟨⟨⟨⟨⟨⟨trivial, ?_⟩, ?_⟩, ?_⟩, ?_⟩, ?_⟩, ?_⟩, ?_⟩ <;> first | (rw [decide_eq_true_eq]; omega) | omega
  · rw [e, car_add (wsum_bound _ (byt_take hB j)).1 (by omega), take2 (by omega), wsum_even _ _ (by rw [List.length_take]; omega)]
    simp [wsum]
theorem odd_ok {L : List Int} {n j : Nat} (hB : Byt L) (hn : n = L.length) (hs : n ≤ 1099511627776) (h : j + 1 = n) (he : j % 2 = 0) {a : Int} (ha : a = sc.car (wsum (L.take j))) :
    pO L n a (j : Int) ∧ sc.car (a1 L a j) = sc.car (wsum (L.take (j + 2))) := by
  have b1 := byt_at hB (show j < L.length by omega)
  have c := car_b (wsum (L.take j))
  have e : a1 L a j = sc.car (wsum (L.take j)) + L.getD j 0 * 256 := by
    unfold a1
    rw [q8_eq, ha]
    rw [IntKind.wrap_i64, IntKind.wrap_i64, IntKind.wrap_i64]
    omega
  refine ⟨?_, ?_⟩
  · unfold pO inN in8
    rw [e, w1_eq (show j < n by omega) hs]
    refine ⟨⟨⟨⟨⟨trivial, ?_⟩, ?_⟩, ?_⟩, ?_⟩, ?_⟩ <;> first | (rw [decide_eq_true_eq]; omega) | (rw [decide_eq_false_iff_not]; omega) | omega
  · have et : L.take (j + 2) = L.take j ++ [L.getD j 0] := by
      rw [← take1 (by omega), List.take_of_length_le (by omega), List.take_of_length_le (by omega)]
    rw [e, car_add (wsum_bound _ (byt_take hB j)).1 (by omega), et, wsum_even _ _ (by rw [List.length_take]; omega)]
    rfl
theorem loopR (L : List Int) (n c : Nat) (rd : Option Nat) (hB : Byt L) (hn : n = L.length) (h2 : 2 ≤ n) (hs : n ≤ 1099511627776) :
    CodeOk Try.prog rd (.loop body) (E L n c none 0 0) (.exit 0) (X L n c none (sc.car (wsum L)) ((n + n % 2 : Nat) : Int)) := by
  refine CodeOk.of_step (Step.loop (fun k s => (k = n + 1 ∧ s = E L n c none 0 0) ∨ ∃ (j : Nat) (a : Int), 2 ≤ j ∧ j ≤ n + 1 ∧ j % 2 = 0 ∧ k = n + 1 - j ∧ s = R L n c none a j ∧ a = sc.car (wsum (L.take j))) ?_ (n + 1) _ (.inl ⟨rfl, rfl⟩))
  rintro k s (⟨rfl, rfl⟩ | ⟨j, a, h1, h3, h4, rfl, rfl, h5⟩)
  · obtain ⟨q1, q2⟩ := even_ok (j := 0) hB hn hs (by omega) rfl (a := 0) (by simp [wsum, sc.car])
    refine (eE L n c 0 ((0 : Nat) : Int) 0 rd q1).mono ?_
    rintro e s ⟨rfl, rfl⟩
    refine .inl ⟨rfl, n + 1 - 2, by omega, .inr ⟨2, sc.car (a2 L 0 ((0 : Nat) : Int)), by omega, by omega, rfl, rfl, ?_, q2⟩⟩
    rw [w2_eq (show 0 < n by omega) hs]
  · by_cases hj : j < n
    · by_cases hj2 : j + 1 < n
      · obtain ⟨q1, q2⟩ := even_ok hB hn hs hj2 h4 h5
        refine (rE L n c a (j : Int) 0 rd q1).mono ?_
        rintro e s ⟨rfl, rfl⟩
        refine .inl ⟨rfl, n + 1 - (j + 2), by omega, .inr ⟨j + 2, sc.car (a2 L a (j : Int)), by omega, by omega, by omega, rfl, ?_, q2⟩⟩
        rw [w2_eq hj hs]
      · obtain ⟨q1, q2⟩ := odd_ok hB hn hs (show j + 1 = n by omega) h4 h5
        refine (rO L n c a (j : Int) 0 rd q1).mono ?_
        rintro e s ⟨rfl, rfl⟩
        refine .inl ⟨rfl, n + 1 - (j + 2), by omega, .inr ⟨j + 2, sc.car (a1 L a (j : Int)), by omega, by omega, by omega, rfl, ?_, q2⟩⟩
        rw [w2_eq hj hs]
    · have hjn : j = n + n % 2 := by omega
      refine (rX L n c a (j : Int) 0 rd ⟨trivial, by rw [decide_eq_false_iff_not]; omega⟩).mono ?_
      rintro e s ⟨rfl, rfl⟩
      refine .inr ⟨(by intro x; cases x), rfl, ?_⟩
      rw [h5, List.take_of_length_le (by omega), hjn]
def L13 (f : FuncId) (c : Code) (S : St) : Option Ask2 := if f == 13 then some ⟨⟨[], [], [], []⟩, .exit 0, fun S => match getL S.tmps 0, S.heap.get 0 with
  | .slice (some ⟨_, _, g⟩) n c, some (.cells (.ints _ L) _) => X L n c g (sc.car (wsum L)) ((n + n % 2 : Nat) : Int)
  | _, _ => S⟩ else none
def hB1 (L : List Int) : List (Option Ob) := [some (.cells (.ints .u8 L) 5)]
theorem runR (L : List Int) (n c : Nat) : ((mk Try.prog (Given.asking2 Given.nothing Try.prog L13) 100).call 13 [.slice (some ⟨0, 0, none⟩) n c] (smSt 1 (hB1 L) [])).map (fun r => (r.1, r.2.obl, r.2.next, keepL [true] r.2.heap.get 0)) =
    some (.int .u16 (IntKind.u16.wrap (sc.car (wsum L))), True ∧ ∀ rd, CodeOk Try.prog rd (.loop body) (E L n c none 0 0) (.exit 0) (X L n c none (sc.car (wsum L)) ((n + n % 2 : Nat) : Int)), (hB1 L).length, hB1 L) := by kernel_rfl
theorem rawR (L : List Int) (n c : Nat) (hB : Byt L) (hn : n = L.length) (h2 : 2 ≤ n) (hs : n ≤ 1099511627776) :
    CallOk Try.prog 13 [.slice (some ⟨0, 0, none⟩) n c] (smSt 1 (hB1 L) []) (.int .u16 (sc.car (wsum L))) (smSt 1 (hB1 L) []) := by
  have hw : IntKind.u16.wrap (sc.car (wsum L)) = sc.car (wsum L) := by have := car_b (wsum L); rw [IntKind.wrap_u16]; omega
  have := frame_by sr.pg (GivenOk.asking2 (GivenOk.nothing _) L13) [true] (runR L n c) ⟨trivial, fun rd => loopR L n c rd hB hn h2 hs⟩ rfl rfl
  rw [hw] at this; exact this
end
end rr
end se
end Go.Proofs.Yteknepfcbpoooab
