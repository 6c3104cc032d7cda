/- Read off the code by the clean reading. -/
import Derived.Test.YteknepfcbpoooabClnQc
import Derived.Test.YteknepfcbpoooabRows
import Derived.WalkKit
import Derived.ProofKit
import Derived.Below
import Derived.IntWalk
set_option linter.unusedVariables false
set_option linter.unusedSimpArgs false
set_option linter.deprecated false
set_option maxRecDepth 100000
namespace Go.Proofs.Yteknepfcbpoooab
open Go.ChangeShapes Go.WideShapes Go.ChangeAt Go.RowKit Go.Cln
namespace sr
set_option linter.unusedVariables false
theorem pg : PG Try.prog := PG.of (by decide +kernel)
noncomputable section
def EH (L : List Int) (n c : Nat) (g : Option Nat) (tot hi : Int) (al : Bool) (i : Int) : Nat → Option Ob := fun i => match i with
  | 0 => some (.cells (.ints .u8 L) 5)
  | 1 => some (.cells (.lit ([.slice (some ⟨0, 0, g⟩) n c])) 23)
  | 2 => some (.cells (.lit ([.int .u64 tot])) 62)
  | 3 => some (.cells (.lit ([.slice (some ⟨1, 0, none⟩) 1 1])) 22)
  | 4 => some (.cells (.lit ([.pointer (some ⟨2, 0, none⟩)])) 74)
  | 5 => some (.marks)
  | 6 => some (.loop ⟨.ready, none, [.pointer (some ⟨2, 0, none⟩), .func (.func 39) #[] #[.pointer (some ⟨3, 0, none⟩)], .pointer (some ⟨4, 0, none⟩), undef, undef, .func (.func 39) #[] #[.pointer (some ⟨3, 0, none⟩)]] ++ U 10, #[6], (rngAt Try.prog 31 0).2.1, (rngAt Try.prog 31 0).2.2, 5⟩)
  | 7 => some (.cells (.lit ([.func (.yield 6) #[] #[]])) 75)
  | 8 => some (.cells (.lit ([.int .u16 hi])) 27)
  | 9 => some (.cells (.lit ([.bool al])) 4)
  | 10 => some (.cells (.lit ([.func (.func 40) #[] #[.pointer (some ⟨9, 0, none⟩), .pointer (some ⟨8, 0, none⟩)]])) 76)
  | 11 => some (.cells (.lit ([.slice (some ⟨1, 0, none⟩) 1 1])) 22)
  | 12 => some (.marks)
  | 13 => some (.loop ⟨.ready, none, [.func (.yield 6) #[] #[], .pointer (some ⟨3, 0, none⟩), .pointer (some ⟨7, 0, none⟩), .pointer (some ⟨8, 0, none⟩), .pointer (some ⟨9, 0, none⟩), .pointer (some ⟨10, 0, none⟩), undef, undef, .func (.func 40) #[] #[.pointer (some ⟨9, 0, none⟩), .pointer (some ⟨8, 0, none⟩)], .slice (some ⟨1, 0, none⟩) 1 1, .func (.func 43) #[] #[.pointer (some ⟨11, 0, none⟩)]] ++ U 15, #[11], (rngAt Try.prog 39 0).2.1, (rngAt Try.prog 39 0).2.2, 12⟩)
  | _ => none
def E (L : List Int) (n c : Nat) (g : Option Nat) (tot hi : Int) (al : Bool) (i : Int) : St := ⟨[.func (.yield 13) #[] #[], .pointer (some ⟨11, 0, none⟩), undef, undef, .slice (some ⟨0, 0, g⟩) n c, undef, undef, .slice (some ⟨1, 0, none⟩) 1 1, .int .i64 1, .int .i64 0, .bool true, .pointer (some ⟨1, 0, none⟩), .slice (some ⟨0, 0, g⟩) n c, .slice (some ⟨0, 0, g⟩) n c, .int .i64 (n : Int), .int .i64 i] ++ U 9, [], Tr.rebuild (EH L n c g tot hi al i) 14, 14, 2, [], fun _ => false, True, []⟩
def RH (L : List Int) (n c : Nat) (g : Option Nat) (tot hi : Int) (al : Bool) (i : Int) : Nat → Option Ob := fun i => match i with
  | 0 => some (.cells (.ints .u8 L) 5)
  | 1 => some (.cells (.lit ([.slice (some ⟨0, 0, g⟩) n c])) 23)
  | 2 => some (.cells (.lit ([.int .u64 tot])) 62)
  | 3 => some (.cells (.lit ([.slice (some ⟨1, 0, none⟩) 1 1])) 22)
  | 4 => some (.cells (.lit ([.pointer (some ⟨2, 0, none⟩)])) 74)
  | 5 => some (.marks)
  | 6 => some (.loop ⟨.ready, none, [.pointer (some ⟨2, 0, none⟩), .func (.func 39) #[] #[.pointer (some ⟨3, 0, none⟩)], .pointer (some ⟨4, 0, none⟩), undef, undef, .func (.func 39) #[] #[.pointer (some ⟨3, 0, none⟩)]] ++ U 10, #[6], (rngAt Try.prog 31 0).2.1, (rngAt Try.prog 31 0).2.2, 5⟩)
  | 7 => some (.cells (.lit ([.func (.yield 6) #[] #[]])) 75)
  | 8 => some (.cells (.lit ([.int .u16 hi])) 27)
  | 9 => some (.cells (.lit ([.bool al])) 4)
  | 10 => some (.cells (.lit ([.func (.func 40) #[] #[.pointer (some ⟨9, 0, none⟩), .pointer (some ⟨8, 0, none⟩)]])) 76)
  | 11 => some (.cells (.lit ([.slice (some ⟨1, 0, none⟩) 1 1])) 22)
  | 12 => some (.marks)
  | 13 => some (.loop ⟨.ready, none, [.func (.yield 6) #[] #[], .pointer (some ⟨3, 0, none⟩), .pointer (some ⟨7, 0, none⟩), .pointer (some ⟨8, 0, none⟩), .pointer (some ⟨9, 0, none⟩), .pointer (some ⟨10, 0, none⟩), undef, undef, .func (.func 40) #[] #[.pointer (some ⟨9, 0, none⟩), .pointer (some ⟨8, 0, none⟩)], .slice (some ⟨1, 0, none⟩) 1 1, .func (.func 43) #[] #[.pointer (some ⟨11, 0, none⟩)]] ++ U 15, #[11], (rngAt Try.prog 39 0).2.1, (rngAt Try.prog 39 0).2.2, 12⟩)
  | _ => none
def R (L : List Int) (n c : Nat) (g : Option Nat) (tot hi : Int) (al : Bool) (i : Int) : St := ⟨[.func (.yield 13) #[] #[], .pointer (some ⟨11, 0, none⟩), undef, undef, .slice (some ⟨0, 0, g⟩) n c, undef, junk, .slice (some ⟨1, 0, none⟩) 1 1, .int .i64 1, .int .i64 0, .bool true, .pointer (some ⟨1, 0, none⟩), .slice (some ⟨0, 0, g⟩) n c, .slice (some ⟨0, 0, g⟩) n c, .int .i64 (n : Int), .int .i64 i, .bool true, junk, junk, .func (.yield 13) #[] #[], junk, .bool true, .bool false, junk, undef], [], Tr.rebuild (RH L n c g tot hi al i) 14, 14, 2, [], fun _ => false, True, []⟩
def XH (L : List Int) (n c : Nat) (g : Option Nat) (tot hi : Int) (al : Bool) (i : Int) : Nat → Option Ob := fun i => match i with
  | 0 => some (.cells (.ints .u8 L) 5)
  | 1 => some (.cells (.lit ([.slice (some ⟨0, 0, g⟩) n c])) 23)
  | 2 => some (.cells (.lit ([.int .u64 tot])) 62)
  | 3 => some (.cells (.lit ([.slice (some ⟨1, 0, none⟩) 1 1])) 22)
  | 4 => some (.cells (.lit ([.pointer (some ⟨2, 0, none⟩)])) 74)
  | 5 => some (.marks)
  | 6 => some (.loop ⟨.ready, none, [.pointer (some ⟨2, 0, none⟩), .func (.func 39) #[] #[.pointer (some ⟨3, 0, none⟩)], .pointer (some ⟨4, 0, none⟩), undef, undef, .func (.func 39) #[] #[.pointer (some ⟨3, 0, none⟩)]] ++ U 10, #[6], (rngAt Try.prog 31 0).2.1, (rngAt Try.prog 31 0).2.2, 5⟩)
  | 7 => some (.cells (.lit ([.func (.yield 6) #[] #[]])) 75)
  | 8 => some (.cells (.lit ([.int .u16 hi])) 27)
  | 9 => some (.cells (.lit ([.bool al])) 4)
  | 10 => some (.cells (.lit ([.func (.func 40) #[] #[.pointer (some ⟨9, 0, none⟩), .pointer (some ⟨8, 0, none⟩)]])) 76)
  | 11 => some (.cells (.lit ([.slice (some ⟨1, 0, none⟩) 1 1])) 22)
  | 12 => some (.marks)
  | 13 => some (.loop ⟨.ready, none, [.func (.yield 6) #[] #[], .pointer (some ⟨3, 0, none⟩), .pointer (some ⟨7, 0, none⟩), .pointer (some ⟨8, 0, none⟩), .pointer (some ⟨9, 0, none⟩), .pointer (some ⟨10, 0, none⟩), undef, undef, .func (.func 40) #[] #[.pointer (some ⟨9, 0, none⟩), .pointer (some ⟨8, 0, none⟩)], .slice (some ⟨1, 0, none⟩) 1 1, .func (.func 43) #[] #[.pointer (some ⟨11, 0, none⟩)]] ++ U 15, #[11], (rngAt Try.prog 39 0).2.1, (rngAt Try.prog 39 0).2.2, 12⟩)
  | _ => none
def X (L : List Int) (n c : Nat) (g : Option Nat) (tot hi : Int) (al : Bool) (i : Int) : St := ⟨[.func (.yield 13) #[] #[], .pointer (some ⟨11, 0, none⟩), undef, undef, .slice (some ⟨0, 0, g⟩) n c, undef, junk, .slice (some ⟨1, 0, none⟩) 1 1, .int .i64 1, .int .i64 0, .bool true, .pointer (some ⟨1, 0, none⟩), .slice (some ⟨0, 0, g⟩) n c, .slice (some ⟨0, 0, g⟩) n c, .int .i64 (n : Int), .int .i64 i, .bool false, junk, junk, .func (.yield 13) #[] #[], junk, .bool true, .bool false, junk, undef], [], Tr.rebuild (XH L n c g tot hi al i) 14, 14, 2, [], fun _ => false, True, []⟩
noncomputable def bodyI : Code := loopB Try.prog 43 1
def x8 (L : List Int) (i : Int) : Int := L.getD (0 + i.toNat * 1) 0
def hi1 (x : Int) : Int := IntKind.u16.wrap (IntKind.u16.wrap x * 2 ^ 8)
def tot2 (tot hi x : Int) : Int := IntKind.u64.wrap (tot + IntKind.u64.wrap (orI .u16 hi (IntKind.u16.wrap x)))
def pI (L : List Int) (n : Nat) (al : Bool) (i : Int) : Prop := (((((True ∧ decide (i < (n : Int)) = true) ∧ (0 ≤ i ∧ i < (n : Int))) ∧ 0 + i.toNat * 1 < L.length) ∧ (!al) = true) ∧ (!al) = true)
def pJ (L : List Int) (n : Nat) (al : Bool) (i : Int) : Prop := (((((True ∧ decide (i < (n : Int)) = true) ∧ (0 ≤ i ∧ i < (n : Int))) ∧ 0 + i.toNat * 1 < L.length) ∧ (!al) = false) ∧ (!al) = false)
def o1 : List (Option Bool) := List.replicate 5 (some true)
def o2 : List (Option Bool) := [some true, some true, some true, some false, some false]
def w1 (i : Int) : Int := IntKind.i64.wrap (i + 1)
theorem eI (L : List Int) (n c : Nat) (tot hi : Int) (al : Bool) (i : Int) (tot0 hi0 : Int) (al0 : Bool) (rd : Option Nat) (hp : pI L n al i) :
    Step Try.prog rd (E L n c none tot0 hi0 al0 0) bodyI (E L n c none tot hi al i) (fun e s => e = .normal ∧ s = R L n c none tot (hi1 (x8 L i)) (!al) (w1 i)) :=
  Step.std pg (GivenOk.nothing _) (n := 200) (f := 43) (σ := []) (o := o1) (n1 := 14) (g := RH L n c none tot (hi1 (x8 L i)) (!al) (w1 i)) (by kernel_rfl) hp (Nat.le_refl _) rfl (by kernel_rfl)
theorem eJ (L : List Int) (n c : Nat) (tot hi : Int) (al : Bool) (i : Int) (tot0 hi0 : Int) (al0 : Bool) (rd : Option Nat) (hp : pJ L n al i) :
    Step Try.prog rd (E L n c none tot0 hi0 al0 0) bodyI (E L n c none tot hi al i) (fun e s => e = .normal ∧ s = R L n c none (tot2 tot hi (x8 L i)) hi (!al) (w1 i)) :=
  Step.std pg (GivenOk.nothing _) (n := 200) (f := 43) (σ := []) (o := o2) (n1 := 14) (g := RH L n c none (tot2 tot hi (x8 L i)) hi (!al) (w1 i)) (by kernel_rfl) hp (Nat.le_refl _) rfl (by kernel_rfl)
theorem rI (L : List Int) (n c : Nat) (tot hi : Int) (al : Bool) (i : Int) (tot0 hi0 : Int) (al0 : Bool) (rd : Option Nat) (hp : pI L n al i) :
    Step Try.prog rd (E L n c none tot0 hi0 al0 0) bodyI (R L n c none tot hi al i) (fun e s => e = .normal ∧ s = R L n c none tot (hi1 (x8 L i)) (!al) (w1 i)) :=
  Step.std pg (GivenOk.nothing _) (n := 200) (f := 43) (σ := []) (o := o1) (n1 := 14) (g := RH L n c none tot (hi1 (x8 L i)) (!al) (w1 i)) (by kernel_rfl) hp (Nat.le_refl _) rfl (by kernel_rfl)
theorem rJ (L : List Int) (n c : Nat) (tot hi : Int) (al : Bool) (i : Int) (tot0 hi0 : Int) (al0 : Bool) (rd : Option Nat) (hp : pJ L n al i) :
    Step Try.prog rd (E L n c none tot0 hi0 al0 0) bodyI (R L n c none tot hi al i) (fun e s => e = .normal ∧ s = R L n c none (tot2 tot hi (x8 L i)) hi (!al) (w1 i)) :=
  Step.std pg (GivenOk.nothing _) (n := 200) (f := 43) (σ := []) (o := o2) (n1 := 14) (g := RH L n c none (tot2 tot hi (x8 L i)) hi (!al) (w1 i)) (by kernel_rfl) hp (Nat.le_refl _) rfl (by kernel_rfl)
theorem xR (L : List Int) (n c : Nat) (tot hi : Int) (al : Bool) (i : Int) (tot0 hi0 : Int) (al0 : Bool) (rd : Option Nat) (hp : True ∧ decide (i < (n : Int)) = false) :
    Step Try.prog rd (E L n c none tot0 hi0 al0 0) bodyI (R L n c none tot hi al i) (fun e s => e = .exit 2 ∧ s = X L n c none tot hi al i) :=
  Step.std pg (GivenOk.nothing _) (n := 200) (f := 43) (σ := []) (o := [some false]) (n1 := 14) (g := XH L n c none tot hi al i) (by kernel_rfl) hp (Nat.le_refl _) rfl (by kernel_rfl)
end
end sr
end Go.Proofs.Yteknepfcbpoooab
namespace Go.Proofs.Yteknepfcbpoooab
open Go.ChangeShapes Go.WideShapes Go.ChangeAt Go.RowKit Go.Cln
namespace sc
set_option linter.unusedVariables false
noncomputable section
def EH (u t : Int) : Nat → Option Ob := fun i => match i with
  | 0 => some (.cells (.lit ([.int .u64 u])) 62)
  | _ => none
def E (u t : Int) : St := ⟨[.pointer (some ⟨0, 0, none⟩), undef, .int .u16 0, .int .u64 t, .pointer (some ⟨0, 0, none⟩), .pointer (some ⟨0, 0, none⟩), .pointer (some ⟨0, 0, none⟩), .int .u64 u] ++ U 9, [], Tr.rebuild (EH u t) 1, 1, 1, [], fun _ => false, True, []⟩
def RH (u t : Int) : Nat → Option Ob := fun i => match i with
  | 0 => some (.cells (.lit ([.int .u64 u])) 62)
  | _ => none
def R (u t : Int) : St := ⟨[.pointer (some ⟨0, 0, none⟩), undef, .int .u16 0, .int .u64 t, .pointer (some ⟨0, 0, none⟩), .pointer (some ⟨0, 0, none⟩), .pointer (some ⟨0, 0, none⟩), .int .u64 u, junk, .bool true] ++ J 5 ++ [undef, undef], [], Tr.rebuild (RH u t) 1, 1, 1, [], fun _ => false, True, []⟩
def XH (u t : Int) : Nat → Option Ob := fun i => match i with
  | 0 => some (.cells (.lit ([.int .u64 u])) 62)
  | _ => none
def X (u t : Int) : St := ⟨[.pointer (some ⟨0, 0, none⟩), undef, .int .u16 0, .int .u64 t, .pointer (some ⟨0, 0, none⟩), .pointer (some ⟨0, 0, none⟩), .pointer (some ⟨0, 0, none⟩), .int .u64 u, junk, .bool false] ++ J 5 ++ [undef, undef], [], Tr.rebuild (XH u t) 1, 1, 1, [], fun _ => false, True, []⟩
noncomputable def body : Code := loopB Try.prog 33 0
def nx (t : Int) : Int := IntKind.u64.wrap (andI .u64 t 65535 + t.fdiv (2 ^ 16))
theorem eR (u t t0 : Int) (rd : Option Nat) (hp : True ∧ decide (t > 65535) = true) :
    Step Try.prog rd (E u t0) body (E u t) (fun e s => e = .normal ∧ s = R u (nx t)) :=
  Step.std sr.pg (GivenOk.nothing _) (n := 200) (f := 33) (σ := []) (o := [some true]) (n1 := 1) (g := RH u (nx t)) (by kernel_rfl) hp (Nat.le_refl _) rfl (by kernel_rfl)
theorem rR (u t t0 : Int) (rd : Option Nat) (hp : True ∧ decide (t > 65535) = true) :
    Step Try.prog rd (E u t0) body (R u t) (fun e s => e = .normal ∧ s = R u (nx t)) :=
  Step.std sr.pg (GivenOk.nothing _) (n := 200) (f := 33) (σ := []) (o := [some true]) (n1 := 1) (g := RH u (nx t)) (by kernel_rfl) hp (Nat.le_refl _) rfl (by kernel_rfl)
theorem rX (u t t0 : Int) (rd : Option Nat) (hp : True ∧ decide (t > 65535) = false) :
    Step Try.prog rd (E u t0) body (R u t) (fun e s => e = .exit 0 ∧ s = X u t) :=
  Step.std sr.pg (GivenOk.nothing _) (n := 200) (f := 33) (σ := []) (o := [some false]) (n1 := 1) (g := XH u t) (by kernel_rfl) hp (Nat.le_refl _) rfl (by kernel_rfl)
end
end sc
end Go.Proofs.Yteknepfcbpoooab
namespace Go.Proofs.Yteknepfcbpoooab
open Go.ChangeShapes Go.WideShapes Go.ChangeAt Go.RowKit Go.Cln
namespace sc
set_option linter.unusedVariables false
noncomputable section
def car (t : Int) : Int := if t ≤ 0 then 0 else (t - 1) % 65535 + 1
theorem and16 {t : Int} (h0 : 0 ≤ t) (h1 : t < 18446744073709551616) : andI .u64 t 65535 = t % 65536 := by
  unfold andI
  have e : (BitVec.ofInt IntKind.u64.bits t &&& BitVec.ofInt IntKind.u64.bits 65535).toNat = t.toNat % 65536 := by
    rw [BitVec.toNat_and]
    have a : (BitVec.ofInt IntKind.u64.bits t).toNat = t.toNat := by
      rw [BitVec.toNat_ofInt]
      show (t % ((2 ^ 64 : Nat) : Int)).toNat = t.toNat
      congr 1
      omega
    have b : (BitVec.ofInt IntKind.u64.bits 65535).toNat = 2 ^ 16 - 1 := rfl
    rw [a, b, Nat.and_two_pow_sub_one_eq_mod]
  rw [e, IntKind.wrap_u64]
  omega
theorem nx_eq {t : Int} (h0 : 0 ≤ t) (h1 : t < 18446744073709551616) : nx t = t % 65536 + t / 65536 := by
  unfold nx
  rw [and16 h0 h1, IntKind.wrap_u64]
  have : t.fdiv (2 ^ 16) = t / 65536 := by rw [Int.fdiv_eq_ediv_of_nonneg _ (by decide)]; rfl
  rw [this]
  omega
theorem car_nx {t : Int} (h0 : 65535 < t) (h1 : t < 18446744073709551616) : car (nx t) = car t ∧ 0 < nx t ∧ nx t < t := by
  rw [nx_eq (by omega) h1]
  refine ⟨?_, by omega, by omega⟩
  unfold car
  rw [if_neg (by omega), if_neg (by omega)]
  omega
theorem loopC (u t : Int) (rd : Option Nat) (h0 : 65535 < t) (h1 : t < 18446744073709551616) : CodeOk Try.prog rd (.loop body) (E u t) (.exit 0) (X u (car t)) := by
  refine CodeOk.of_step (Step.loop (fun k s => (k = t.toNat ∧ s = E u t) ∨ ∃ x : Int, 0 < x ∧ x < t ∧ k = x.toNat ∧ s = R u x ∧ car x = car t) ?_ t.toNat _ (.inl ⟨rfl, rfl⟩))
  rintro k s (⟨rfl, rfl⟩ | ⟨x, g1, g2, rfl, rfl, g3⟩)
  · refine (eR u t t rd ⟨trivial, by rw [decide_eq_true_eq]; exact h0⟩).mono ?_
    rintro e s ⟨rfl, rfl⟩
    obtain ⟨q1, q2, q3⟩ := car_nx h0 h1
    exact .inl ⟨rfl, (nx t).toNat, by omega, .inr ⟨nx t, q2, q3, rfl, rfl, q1⟩⟩
  · by_cases hx : 65535 < x
    · refine (rR u x t rd ⟨trivial, by rw [decide_eq_true_eq]; exact hx⟩).mono ?_
      rintro e s ⟨rfl, rfl⟩
      obtain ⟨q1, q2, q3⟩ := car_nx hx (by omega)
      exact .inl ⟨rfl, (nx x).toNat, by omega, .inr ⟨nx x, q2, by omega, rfl, rfl, q1.trans g3⟩⟩
    · refine (rX u x t rd ⟨trivial, by rw [decide_eq_false_iff_not]; omega⟩).mono ?_
      rintro e s ⟨rfl, rfl⟩
      refine .inr ⟨(by intro x; cases x), rfl, ?_⟩
      rw [← g3]
      have : car x = x := by unfold car; rw [if_neg (by omega)]; omega
      rw [this]
def L33 (f : FuncId) (c : Code) (S : St) : Option Ask2 := if f == 33 then some ⟨⟨[], [], [], []⟩, .exit 0, fun S => match getL S.tmps 3, getL S.tmps 7 with
  | .int _ t, .int _ u => X u (car t)
  | _, _ => S⟩ else none
def hC (t : Int) : List (Option Ob) := [some (.cells (.lit [.int .u64 t]) 62)]
theorem runA (t : Int) : ((mk Try.prog Given.nothing 100).call 33 [P0 0 0] (smSt 1 (hC t) [some false])).map (fun r => (r.1, r.2.obl, r.2.next, keepL [true] r.2.heap.get 0)) = some (.int .u16 (IntKind.u16.wrap t), True ∧ decide (t > 65535) = false, (hC t).length, hC t) := by kernel_rfl
theorem runB (t : Int) : ((mk Try.prog (Given.asking2 Given.nothing Try.prog L33) 100).call 33 [P0 0 0] (smSt 1 (hC t) [])).map (fun r => (r.1, r.2.obl, r.2.next, keepL [true] r.2.heap.get 0)) = some (.int .u16 (IntKind.u16.wrap (car t)), True ∧ ∀ rd, CodeOk Try.prog rd (.loop body) (E t t) (.exit 0) (X t (car t)), (hC t).length, hC t) := by kernel_rfl
theorem car_ok (t : Int) (h0 : 0 ≤ t) (h1 : t < 18446744073709551616) : CallOk Try.prog 33 [P0 0 0] (smSt 1 (hC t) []) (.int .u16 (car t)) (smSt 1 (hC t) []) := by
  have hw : IntKind.u16.wrap (car t) = car t := by unfold car; rw [IntKind.wrap_u16]; split <;> omega
  by_cases h : 65535 < t
  · have := frame_by sr.pg (GivenOk.asking2 (GivenOk.nothing _) L33) [true] (runB t) ⟨trivial, fun rd => loopC t t rd h h1⟩ rfl rfl
    rw [hw] at this; exact this
  · have := frame_by sr.pg (GivenOk.nothing _) [true] (runA t) ⟨trivial, by rw [decide_eq_false_iff_not]; omega⟩ rfl rfl
    have e : car t = t := by unfold car; split <;> omega
    rw [e] at hw ⊢
    rw [hw] at this; exact this
end
end sc
end Go.Proofs.Yteknepfcbpoooab
namespace Go.Proofs.Yteknepfcbpoooab
open Go.ChangeShapes Go.WideShapes Go.ChangeAt Go.RowKit Go.Cln
namespace sr
set_option linter.unusedVariables false
noncomputable section
def scan (L : List Int) : Nat → Nat → Int → Int → Bool → Int × Int × Bool
  | 0, _, tot, hi, al => (tot, hi, al)
  | k + 1, i, tot, hi, false => scan L k (i + 1) tot (hi1 (L.getD i 0)) true
  | k + 1, i, tot, hi, true => scan L k (i + 1) (tot2 tot hi (L.getD i 0)) hi false
theorem w1_eq {j n : Nat} (h : j < n) (hn : n ≤ 4611686018427387904) : w1 (j : Int) = ((j + 1 : Nat) : Int) := by unfold w1; rw [IntKind.wrap_i64]; omega
theorem x8_eq (L : List Int) (j : Nat) : x8 L (j : Int) = L.getD j 0 := by unfold x8; rw [show 0 + (j : Int).toNat * 1 = j by omega]
theorem pI_ok {L : List Int} {n j : Nat} (h : j < n) (hL : n ≤ L.length) : pI L n false (j : Int) := by
  unfold pI
  refine ⟨⟨⟨⟨⟨trivial, ?_⟩, ?_⟩, ?_⟩, rfl⟩, rfl⟩
  · rw [decide_eq_true_eq]; omega
  · omega
  · omega
theorem pJ_ok {L : List Int} {n j : Nat} (h : j < n) (hL : n ≤ L.length) : pJ L n true (j : Int) := by
  unfold pJ
  refine ⟨⟨⟨⟨⟨trivial, ?_⟩, ?_⟩, ?_⟩, rfl⟩, rfl⟩
  · rw [decide_eq_true_eq]; omega
  · omega
  · omega
theorem loopI (L : List Int) (n c : Nat) (tot hi : Int) (al : Bool) (rd : Option Nat) (h0 : 0 < n) (hL : n ≤ L.length) (hn : n ≤ 4611686018427387904) :
    CodeOk Try.prog rd (.loop bodyI) (E L n c none tot hi al 0) (.exit 2) (X L n c none (scan L n 0 tot hi al).1 (scan L n 0 tot hi al).2.1 (scan L n 0 tot hi al).2.2 n) := by
  refine CodeOk.of_step (Step.loop (fun k s => (k = n + 1 ∧ s = E L n c none tot hi al 0) ∨ ∃ (j : Nat) (t' h' : Int) (a' : Bool), 1 ≤ j ∧ j ≤ n ∧ k = n - j ∧ s = R L n c none t' h' a' j ∧ scan L (n - j) j t' h' a' = scan L n 0 tot hi al) ?_ (n + 1) _ (.inl ⟨rfl, rfl⟩))
  rintro k s (⟨rfl, rfl⟩ | ⟨j, t', h', a', h1, h2, rfl, rfl, h3⟩)
  · obtain ⟨m, rfl⟩ : ∃ m, n = m + 1 := ⟨n - 1, by omega⟩
    cases al with
    | false =>
      refine (eI L (m + 1) c tot hi false ((0 : Nat) : Int) tot hi false rd (pI_ok h0 hL)).mono ?_
      rintro e s ⟨rfl, rfl⟩
      refine .inl ⟨rfl, m + 1 - 1, by omega, .inr ⟨1, tot, hi1 (L.getD 0 0), true, Nat.le_refl _, h0, rfl, ?_, ?_⟩⟩
      · rw [w1_eq h0 hn, x8_eq]; rfl
      · simp only [scan, Nat.add_sub_cancel, Nat.zero_add]
    | true =>
      refine (eJ L (m + 1) c tot hi true ((0 : Nat) : Int) tot hi true rd (pJ_ok h0 hL)).mono ?_
      rintro e s ⟨rfl, rfl⟩
      refine .inl ⟨rfl, m + 1 - 1, by omega, .inr ⟨1, tot2 tot hi (L.getD 0 0), hi, false, Nat.le_refl _, h0, rfl, ?_, ?_⟩⟩
      · rw [w1_eq h0 hn, x8_eq]; rfl
      · simp only [scan, Nat.add_sub_cancel, Nat.zero_add]
  · by_cases e : j = n
    · subst e
      refine (xR L j c t' h' a' (j : Int) tot hi al rd ⟨trivial, by rw [decide_eq_false_iff_not]; omega⟩).mono ?_
      rintro e s ⟨rfl, rfl⟩
      refine .inr ⟨(by intro x; cases x), rfl, ?_⟩
      rw [← h3, Nat.sub_self]; rfl
    · have hlt : j < n := by omega
      have e1 : n - j = (n - (j + 1)) + 1 := by omega
      cases a' with
      | false =>
        refine (rI L n c t' h' false (j : Int) tot hi al rd (pI_ok hlt hL)).mono ?_
        rintro e s ⟨rfl, rfl⟩
        refine .inl ⟨rfl, n - (j + 1), by omega, .inr ⟨j + 1, t', hi1 (L.getD j 0), true, by omega, by omega, rfl, ?_, ?_⟩⟩
        · rw [w1_eq hlt hn, x8_eq]; rfl
        · rw [← h3, e1]; rfl
      | true =>
        refine (rJ L n c t' h' true (j : Int) tot hi al rd (pJ_ok hlt hL)).mono ?_
        rintro e s ⟨rfl, rfl⟩
        refine .inl ⟨rfl, n - (j + 1), by omega, .inr ⟨j + 1, tot2 t' h' (L.getD j 0), h', false, by omega, by omega, rfl, ?_, ?_⟩⟩
        · rw [w1_eq hlt hn, x8_eq]; rfl
        · rw [← h3, e1]; rfl
end
end sr
end Go.Proofs.Yteknepfcbpoooab
