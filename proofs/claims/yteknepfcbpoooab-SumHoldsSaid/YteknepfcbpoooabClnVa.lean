/- Read off the code by the clean reading. -/
import Derived.Test.YteknepfcbpoooabClnNa
import Derived.Test.YteknepfcbpoooabClnQc
set_option linter.unusedVariables false
set_option linter.unusedSimpArgs false
set_option linter.deprecated false
set_option maxRecDepth 100000
namespace Go.Proofs.Yteknepfcbpoooab
open Go.ChangeShapes Go.WideShapes Go.ChangeAt Go.RowKit Go.Cln
namespace sp
set_option linter.unusedVariables false
noncomputable section
namespace we
def EH (L : List Int) (n c : Nat) (sz tot hi : Int) (al : Bool) (i : Int) : Nat → Option Ob := fun i => match i with
  | 0 => some (.cells (.ints .u8 L) 5)
  | 1 => some (.cells (.lit ([.int .u64 tot, .int .i64 sz, .bool true])) 73)
  | 2 => some (.cells (.lit ([])) 5)
  | 3 => some (.cells (.lit ([.slice (some ⟨2, 0, none⟩) 0 0, .slice (some ⟨0, 0, none⟩) n c])) 23)
  | 4 => some (.cells (.lit ([.slice (some ⟨3, 0, none⟩) 2 2])) 22)
  | 5 => some (.cells (.lit ([.pointer (some ⟨1, 0, none⟩)])) 74)
  | 6 => some (.marks)
  | 7 => some (.loop ⟨.ready, none, [.pointer (some ⟨1, 0, none⟩), .func (.func 39) #[] #[.pointer (some ⟨4, 0, none⟩)], .pointer (some ⟨5, 0, none⟩), undef, undef, .func (.func 39) #[] #[.pointer (some ⟨4, 0, none⟩)]] ++ U 10, #[6], (rngAt Try.prog 31 0).2.1, (rngAt Try.prog 31 0).2.2, 6⟩)
  | 8 => some (.cells (.lit ([.func (.yield 7) #[] #[]])) 75)
  | 9 => some (.cells (.lit ([.int .u16 hi])) 27)
  | 10 => some (.cells (.lit ([.bool al])) 4)
  | 11 => some (.cells (.lit ([.func (.func 40) #[] #[.pointer (some ⟨10, 0, none⟩), .pointer (some ⟨9, 0, none⟩)]])) 76)
  | 12 => some (.cells (.lit ([.slice (some ⟨3, 0, none⟩) 2 2])) 22)
  | 13 => some (.marks)
  | 14 => some (.loop ⟨.ready, none, [.func (.yield 7) #[] #[], .pointer (some ⟨4, 0, none⟩), .pointer (some ⟨8, 0, none⟩), .pointer (some ⟨9, 0, none⟩), .pointer (some ⟨10, 0, none⟩), .pointer (some ⟨11, 0, none⟩), undef, undef, .func (.func 40) #[] #[.pointer (some ⟨10, 0, none⟩), .pointer (some ⟨9, 0, none⟩)], .slice (some ⟨3, 0, none⟩) 2 2, .func (.func 43) #[] #[.pointer (some ⟨12, 0, none⟩)]] ++ U 15, #[11], (rngAt Try.prog 39 0).2.1, (rngAt Try.prog 39 0).2.2, 13⟩)
  | _ => none
def E (L : List Int) (n c : Nat) (sz tot hi : Int) (al : Bool) (i : Int) : St := ⟨[.func (.yield 14) #[] #[], .pointer (some ⟨12, 0, none⟩), undef, undef, .slice (some ⟨0, 0, none⟩) n c, undef, undef, .slice (some ⟨3, 0, none⟩) 2 2, .int .i64 2, .int .i64 1, .bool true, .pointer (some ⟨3, 1, none⟩), .slice (some ⟨0, 0, none⟩) n c, .slice (some ⟨0, 0, none⟩) n c, .int .i64 (n : Int), .int .i64 i, .bool false] ++ U 7 ++ [.int .i64 1], [], Tr.rebuild (EH L n c sz tot hi al i) 15, 15, 1, [], fun _ => false, True, []⟩
def RH (L : List Int) (n c : Nat) (sz tot hi : Int) (al : Bool) (i : Int) : Nat → Option Ob := fun i => match i with
  | 0 => some (.cells (.ints .u8 L) 5)
  | 1 => some (.cells (.lit ([.int .u64 tot, .int .i64 sz, .bool true])) 73)
  | 2 => some (.cells (.lit ([])) 5)
  | 3 => some (.cells (.lit ([.slice (some ⟨2, 0, none⟩) 0 0, .slice (some ⟨0, 0, none⟩) n c])) 23)
  | 4 => some (.cells (.lit ([.slice (some ⟨3, 0, none⟩) 2 2])) 22)
  | 5 => some (.cells (.lit ([.pointer (some ⟨1, 0, none⟩)])) 74)
  | 6 => some (.marks)
  | 7 => some (.loop ⟨.ready, none, [.pointer (some ⟨1, 0, none⟩), .func (.func 39) #[] #[.pointer (some ⟨4, 0, none⟩)], .pointer (some ⟨5, 0, none⟩), undef, undef, .func (.func 39) #[] #[.pointer (some ⟨4, 0, none⟩)]] ++ U 10, #[6], (rngAt Try.prog 31 0).2.1, (rngAt Try.prog 31 0).2.2, 6⟩)
  | 8 => some (.cells (.lit ([.func (.yield 7) #[] #[]])) 75)
  | 9 => some (.cells (.lit ([.int .u16 hi])) 27)
  | 10 => some (.cells (.lit ([.bool al])) 4)
  | 11 => some (.cells (.lit ([.func (.func 40) #[] #[.pointer (some ⟨10, 0, none⟩), .pointer (some ⟨9, 0, none⟩)]])) 76)
  | 12 => some (.cells (.lit ([.slice (some ⟨3, 0, none⟩) 2 2])) 22)
  | 13 => some (.marks)
  | 14 => some (.loop ⟨.ready, none, [.func (.yield 7) #[] #[], .pointer (some ⟨4, 0, none⟩), .pointer (some ⟨8, 0, none⟩), .pointer (some ⟨9, 0, none⟩), .pointer (some ⟨10, 0, none⟩), .pointer (some ⟨11, 0, none⟩), undef, undef, .func (.func 40) #[] #[.pointer (some ⟨10, 0, none⟩), .pointer (some ⟨9, 0, none⟩)], .slice (some ⟨3, 0, none⟩) 2 2, .func (.func 43) #[] #[.pointer (some ⟨12, 0, none⟩)]] ++ U 15, #[11], (rngAt Try.prog 39 0).2.1, (rngAt Try.prog 39 0).2.2, 13⟩)
  | _ => none
def R (L : List Int) (n c : Nat) (sz tot hi : Int) (al : Bool) (i : Int) : St := ⟨[.func (.yield 14) #[] #[], .pointer (some ⟨12, 0, none⟩), undef, undef, .slice (some ⟨0, 0, none⟩) n c, undef, junk, .slice (some ⟨3, 0, none⟩) 2 2, .int .i64 2, .int .i64 1, .bool true, .pointer (some ⟨3, 1, none⟩), .slice (some ⟨0, 0, none⟩) n c, .slice (some ⟨0, 0, none⟩) n c, .int .i64 (n : Int), .int .i64 i] ++ J 3 ++ [.func (.yield 14) #[] #[], junk, .bool true, .bool false, junk, .int .i64 1], [], Tr.rebuild (RH L n c sz tot hi al i) 15, 15, 1, [], fun _ => false, True, []⟩
def XH (L : List Int) (n c : Nat) (sz tot hi : Int) (al : Bool) (i : Int) : Nat → Option Ob := fun i => match i with
  | 0 => some (.cells (.ints .u8 L) 5)
  | 1 => some (.cells (.lit ([.int .u64 tot, .int .i64 sz, .bool true])) 73)
  | 2 => some (.cells (.lit ([])) 5)
  | 3 => some (.cells (.lit ([.slice (some ⟨2, 0, none⟩) 0 0, .slice (some ⟨0, 0, none⟩) n c])) 23)
  | 4 => some (.cells (.lit ([.slice (some ⟨3, 0, none⟩) 2 2])) 22)
  | 5 => some (.cells (.lit ([.pointer (some ⟨1, 0, none⟩)])) 74)
  | 6 => some (.marks)
  | 7 => some (.loop ⟨.ready, none, [.pointer (some ⟨1, 0, none⟩), .func (.func 39) #[] #[.pointer (some ⟨4, 0, none⟩)], .pointer (some ⟨5, 0, none⟩), undef, undef, .func (.func 39) #[] #[.pointer (some ⟨4, 0, none⟩)]] ++ U 10, #[6], (rngAt Try.prog 31 0).2.1, (rngAt Try.prog 31 0).2.2, 6⟩)
  | 8 => some (.cells (.lit ([.func (.yield 7) #[] #[]])) 75)
  | 9 => some (.cells (.lit ([.int .u16 hi])) 27)
  | 10 => some (.cells (.lit ([.bool al])) 4)
  | 11 => some (.cells (.lit ([.func (.func 40) #[] #[.pointer (some ⟨10, 0, none⟩), .pointer (some ⟨9, 0, none⟩)]])) 76)
  | 12 => some (.cells (.lit ([.slice (some ⟨3, 0, none⟩) 2 2])) 22)
  | 13 => some (.marks)
  | 14 => some (.loop ⟨.ready, none, [.func (.yield 7) #[] #[], .pointer (some ⟨4, 0, none⟩), .pointer (some ⟨8, 0, none⟩), .pointer (some ⟨9, 0, none⟩), .pointer (some ⟨10, 0, none⟩), .pointer (some ⟨11, 0, none⟩), undef, undef, .func (.func 40) #[] #[.pointer (some ⟨10, 0, none⟩), .pointer (some ⟨9, 0, none⟩)], .slice (some ⟨3, 0, none⟩) 2 2, .func (.func 43) #[] #[.pointer (some ⟨12, 0, none⟩)]] ++ U 15, #[11], (rngAt Try.prog 39 0).2.1, (rngAt Try.prog 39 0).2.2, 13⟩)
  | _ => none
def X (L : List Int) (n c : Nat) (sz tot hi : Int) (al : Bool) (i : Int) : St := ⟨[.func (.yield 14) #[] #[], .pointer (some ⟨12, 0, none⟩), undef, undef, .slice (some ⟨0, 0, none⟩) n c, undef, junk, .slice (some ⟨3, 0, none⟩) 2 2, .int .i64 2, .int .i64 1, .bool true, .pointer (some ⟨3, 1, none⟩), .slice (some ⟨0, 0, none⟩) n c, .slice (some ⟨0, 0, none⟩) n c, .int .i64 (n : Int), .int .i64 i] ++ J 3 ++ [.func (.yield 14) #[] #[], junk, .bool true, .bool false, junk, .int .i64 1], [], Tr.rebuild (XH L n c sz tot hi al i) 15, 15, 1, [], fun _ => false, True, []⟩
def ZH (L : List Int) (n c : Nat) (sz tot hi : Int) (al : Bool) (i : Int) : Nat → Option Ob := fun i => match i with
  | 0 => some (.cells (.ints .u8 L) 5)
  | 1 => some (.cells (.lit ([.int .u64 tot, .int .i64 sz, .bool true])) 73)
  | 2 => some (.cells (.lit ([])) 5)
  | 3 => some (.cells (.lit ([.slice (some ⟨2, 0, none⟩) 0 0, .slice (some ⟨0, 0, none⟩) n c])) 23)
  | 4 => some (.cells (.lit ([.slice (some ⟨3, 0, none⟩) 2 2])) 22)
  | 5 => some (.cells (.lit ([.pointer (some ⟨1, 0, none⟩)])) 74)
  | 6 => some (.marks)
  | 7 => some (.loop ⟨.ready, none, [.pointer (some ⟨1, 0, none⟩), .func (.func 39) #[] #[.pointer (some ⟨4, 0, none⟩)], .pointer (some ⟨5, 0, none⟩), undef, undef, .func (.func 39) #[] #[.pointer (some ⟨4, 0, none⟩)]] ++ U 10, #[6], (rngAt Try.prog 31 0).2.1, (rngAt Try.prog 31 0).2.2, 6⟩)
  | 8 => some (.cells (.lit ([.func (.yield 7) #[] #[]])) 75)
  | 9 => some (.cells (.lit ([.int .u16 hi])) 27)
  | 10 => some (.cells (.lit ([.bool al])) 4)
  | 11 => some (.cells (.lit ([.func (.func 40) #[] #[.pointer (some ⟨10, 0, none⟩), .pointer (some ⟨9, 0, none⟩)]])) 76)
  | 12 => some (.cells (.lit ([.slice (some ⟨3, 0, none⟩) 2 2])) 22)
  | 13 => some (.marks)
  | 14 => some (.loop ⟨.ready, none, [.func (.yield 7) #[] #[], .pointer (some ⟨4, 0, none⟩), .pointer (some ⟨8, 0, none⟩), .pointer (some ⟨9, 0, none⟩), .pointer (some ⟨10, 0, none⟩), .pointer (some ⟨11, 0, none⟩), undef, undef, .func (.func 40) #[] #[.pointer (some ⟨10, 0, none⟩), .pointer (some ⟨9, 0, none⟩)], .slice (some ⟨3, 0, none⟩) 2 2, .func (.func 43) #[] #[.pointer (some ⟨12, 0, none⟩)]] ++ U 15, #[11], (rngAt Try.prog 39 0).2.1, (rngAt Try.prog 39 0).2.2, 13⟩)
  | _ => none
def Z (L : List Int) (n c : Nat) (sz tot hi : Int) (al : Bool) (i : Int) : St := ⟨[.func (.yield 14) #[] #[], .pointer (some ⟨12, 0, none⟩), undef, undef, .slice (some ⟨0, 0, none⟩) n c, undef, undef, .slice (some ⟨3, 0, none⟩) 2 2, .int .i64 2, .int .i64 1, .bool true, .pointer (some ⟨3, 1, none⟩), .slice (some ⟨0, 0, none⟩) n c, .slice (some ⟨0, 0, none⟩) n c, .int .i64 (n : Int), .int .i64 i, .bool false] ++ U 7 ++ [.int .i64 1], [], Tr.rebuild (ZH L n c sz tot hi al i) 15, 15, 1, [], fun _ => false, True, []⟩
theorem eI (L : List Int) (n c : Nat) (sz tot hi : Int) (al : Bool) (i : Int) (tot0 hi0 : Int) (al0 : Bool) (rd : Option Nat) (hp : sr.pI L n al i) :
    Step Try.prog rd (E L n c sz tot0 hi0 al0 0) sr.bodyI (E L n c sz tot hi al i) (fun e s => e = .normal ∧ s = R L n c sz tot (sr.hi1 (sr.x8 L i)) (!al) (sr.w1 i)) :=
  Step.std sr.pg (GivenOk.nothing _) (n := 200) (f := 43) (σ := []) (o := sr.o1) (n1 := 15) (g := RH L n c sz tot (sr.hi1 (sr.x8 L i)) (!al) (sr.w1 i)) (by kernel_rfl) hp (Nat.le_refl _) rfl (by kernel_rfl)
theorem eJ (L : List Int) (n c : Nat) (sz tot hi : Int) (al : Bool) (i : Int) (tot0 hi0 : Int) (al0 : Bool) (rd : Option Nat) (hp : sr.pJ L n al i) :
    Step Try.prog rd (E L n c sz tot0 hi0 al0 0) sr.bodyI (E L n c sz tot hi al i) (fun e s => e = .normal ∧ s = R L n c sz (sr.tot2 tot hi (sr.x8 L i)) hi (!al) (sr.w1 i)) :=
  Step.std sr.pg (GivenOk.nothing _) (n := 200) (f := 43) (σ := []) (o := sr.o2) (n1 := 15) (g := RH L n c sz (sr.tot2 tot hi (sr.x8 L i)) hi (!al) (sr.w1 i)) (by kernel_rfl) hp (Nat.le_refl _) rfl (by kernel_rfl)
theorem rI (L : List Int) (n c : Nat) (sz tot hi : Int) (al : Bool) (i : Int) (tot0 hi0 : Int) (al0 : Bool) (rd : Option Nat) (hp : sr.pI L n al i) :
    Step Try.prog rd (E L n c sz tot0 hi0 al0 0) sr.bodyI (R L n c sz tot hi al i) (fun e s => e = .normal ∧ s = R L n c sz tot (sr.hi1 (sr.x8 L i)) (!al) (sr.w1 i)) :=
  Step.std sr.pg (GivenOk.nothing _) (n := 200) (f := 43) (σ := []) (o := sr.o1) (n1 := 15) (g := RH L n c sz tot (sr.hi1 (sr.x8 L i)) (!al) (sr.w1 i)) (by kernel_rfl) hp (Nat.le_refl _) rfl (by kernel_rfl)
theorem rJ (L : List Int) (n c : Nat) (sz tot hi : Int) (al : Bool) (i : Int) (tot0 hi0 : Int) (al0 : Bool) (rd : Option Nat) (hp : sr.pJ L n al i) :
    Step Try.prog rd (E L n c sz tot0 hi0 al0 0) sr.bodyI (R L n c sz tot hi al i) (fun e s => e = .normal ∧ s = R L n c sz (sr.tot2 tot hi (sr.x8 L i)) hi (!al) (sr.w1 i)) :=
  Step.std sr.pg (GivenOk.nothing _) (n := 200) (f := 43) (σ := []) (o := sr.o2) (n1 := 15) (g := RH L n c sz (sr.tot2 tot hi (sr.x8 L i)) hi (!al) (sr.w1 i)) (by kernel_rfl) hp (Nat.le_refl _) rfl (by kernel_rfl)
theorem xR (L : List Int) (n c : Nat) (sz tot hi : Int) (al : Bool) (i : Int) (tot0 hi0 : Int) (al0 : Bool) (rd : Option Nat) (hp : True ∧ decide (i < (n : Int)) = false) :
    Step Try.prog rd (E L n c sz tot0 hi0 al0 0) sr.bodyI (R L n c sz tot hi al i) (fun e s => e = .exit 2 ∧ s = X L n c sz tot hi al i) :=
  Step.std sr.pg (GivenOk.nothing _) (n := 200) (f := 43) (σ := []) (o := [some false]) (n1 := 15) (g := XH L n c sz tot hi al i) (by kernel_rfl) hp (Nat.le_refl _) rfl (by kernel_rfl)
theorem xE (L : List Int) (n c : Nat) (sz tot hi : Int) (al : Bool) (i : Int) (tot0 hi0 : Int) (al0 : Bool) (rd : Option Nat) (hp : True ∧ decide (i < (n : Int)) = false) :
    Step Try.prog rd (E L n c sz tot0 hi0 al0 0) sr.bodyI (E L n c sz tot hi al i) (fun e s => e = .exit 2 ∧ s = Z L n c sz tot hi al i) :=
  Step.std sr.pg (GivenOk.nothing _) (n := 200) (f := 43) (σ := []) (o := [some false]) (n1 := 15) (g := ZH L n c sz tot hi al i) (by kernel_rfl) hp (Nat.le_refl _) rfl (by kernel_rfl)
theorem loopI (L : List Int) (n c : Nat) (sz tot hi : Int) (al : Bool) (rd : Option Nat) (h0 : 0 < n) (hL : n ≤ L.length) (hn : n ≤ 4611686018427387904) :
    CodeOk Try.prog rd (.loop sr.bodyI) (E L n c sz tot hi al 0) (.exit 2) (X L n c sz (sr.scan L n 0 tot hi al).1 (sr.scan L n 0 tot hi al).2.1 (sr.scan L n 0 tot hi al).2.2 n) := by
  refine CodeOk.of_step (Step.loop (fun k s => (k = n + 1 ∧ s = E L n c sz tot hi al 0) ∨ ∃ (j : Nat) (t' h' : Int) (a' : Bool), 1 ≤ j ∧ j ≤ n ∧ k = n - j ∧ s = R L n c sz t' h' a' j ∧ sr.scan L (n - j) j t' h' a' = sr.scan L n 0 tot hi al) ?_ (n + 1) _ (.inl ⟨rfl, rfl⟩))
  rintro k s (⟨rfl, rfl⟩ | ⟨j, t', h', a', h1, h2, rfl, rfl, h3⟩)
  · obtain ⟨m, rfl⟩ : ∃ m, n = m + 1 := ⟨n - 1, by omega⟩
    cases al with
    | false =>
      refine (eI L (m + 1) c sz tot hi false ((0 : Nat) : Int) tot hi false rd (sr.pI_ok h0 hL)).mono ?_
      rintro e s ⟨rfl, rfl⟩
      refine .inl ⟨rfl, m + 1 - 1, by omega, .inr ⟨1, tot, sr.hi1 (L.getD 0 0), true, Nat.le_refl _, h0, rfl, ?_, ?_⟩⟩
      · rw [sr.w1_eq h0 hn, sr.x8_eq]; rfl
      · simp only [sr.scan, Nat.add_sub_cancel, Nat.zero_add]
    | true =>
      refine (eJ L (m + 1) c sz tot hi true ((0 : Nat) : Int) tot hi true rd (sr.pJ_ok h0 hL)).mono ?_
      rintro e s ⟨rfl, rfl⟩
      refine .inl ⟨rfl, m + 1 - 1, by omega, .inr ⟨1, sr.tot2 tot hi (L.getD 0 0), hi, false, Nat.le_refl _, h0, rfl, ?_, ?_⟩⟩
      · rw [sr.w1_eq h0 hn, sr.x8_eq]; rfl
      · simp only [sr.scan, Nat.add_sub_cancel, Nat.zero_add]
  · by_cases e : j = n
    · subst e
      refine (xR L j c sz t' h' a' (j : Int) tot hi al rd ⟨trivial, by rw [decide_eq_false_iff_not]; omega⟩).mono ?_
      rintro e s ⟨rfl, rfl⟩
      refine .inr ⟨(by intro x; cases x), rfl, ?_⟩
      rw [← h3, Nat.sub_self]; rfl
    · have hlt : j < n := by omega
      have e1 : n - j = (n - (j + 1)) + 1 := by omega
      cases a' with
      | false =>
        refine (rI L n c sz t' h' false (j : Int) tot hi al rd (sr.pI_ok hlt hL)).mono ?_
        rintro e s ⟨rfl, rfl⟩
        refine .inl ⟨rfl, n - (j + 1), by omega, .inr ⟨j + 1, t', sr.hi1 (L.getD j 0), true, by omega, by omega, rfl, ?_, ?_⟩⟩
        · rw [sr.w1_eq hlt hn, sr.x8_eq]; rfl
        · rw [← h3, e1]; rfl
      | true =>
        refine (rJ L n c sz t' h' true (j : Int) tot hi al rd (sr.pJ_ok hlt hL)).mono ?_
        rintro e s ⟨rfl, rfl⟩
        refine .inl ⟨rfl, n - (j + 1), by omega, .inr ⟨j + 1, sr.tot2 t' h' (L.getD j 0), h', false, by omega, by omega, rfl, ?_, ?_⟩⟩
        · rw [sr.w1_eq hlt hn, sr.x8_eq]; rfl
        · rw [← h3, e1]; rfl
theorem loopZ (L : List Int) (c : Nat) (sz tot hi : Int) (al : Bool) (rd : Option Nat) :
    CodeOk Try.prog rd (.loop sr.bodyI) (E L 0 c sz tot hi al 0) (.exit 2) (Z L 0 c sz tot hi al 0) := by
  refine CodeOk.of_step (Step.loop (fun q s => s = E L 0 c sz tot hi al 0) ?_ 0 _ rfl)
  rintro q s rfl
  refine (xE L 0 c sz tot hi al 0 tot hi al rd ⟨trivial, by rw [decide_eq_false_iff_not]; omega⟩).mono ?_
  rintro e s ⟨rfl, rfl⟩
  exact .inr ⟨(by intro x; cases x), rfl, rfl⟩
end we
namespace wo
def EH (L : List Int) (n c : Nat) (sz tot hi : Int) (al : Bool) (i : Int) : Nat → Option Ob := fun i => match i with
  | 0 => some (.cells (.ints .u8 L) 5)
  | 1 => some (.cells (.lit ([.int .u64 tot, .int .i64 sz, .bool true])) 73)
  | 2 => some (.cells (.lit ([.int .u8 0])) 5)
  | 3 => some (.cells (.lit ([.slice (some ⟨2, 0, none⟩) 1 1, .slice (some ⟨0, 0, none⟩) n c])) 23)
  | 4 => some (.cells (.lit ([.slice (some ⟨3, 0, none⟩) 2 2])) 22)
  | 5 => some (.cells (.lit ([.pointer (some ⟨1, 0, none⟩)])) 74)
  | 6 => some (.marks)
  | 7 => some (.loop ⟨.ready, none, [.pointer (some ⟨1, 0, none⟩), .func (.func 39) #[] #[.pointer (some ⟨4, 0, none⟩)], .pointer (some ⟨5, 0, none⟩), undef, undef, .func (.func 39) #[] #[.pointer (some ⟨4, 0, none⟩)]] ++ U 10, #[6], (rngAt Try.prog 31 0).2.1, (rngAt Try.prog 31 0).2.2, 6⟩)
  | 8 => some (.cells (.lit ([.func (.yield 7) #[] #[]])) 75)
  | 9 => some (.cells (.lit ([.int .u16 hi])) 27)
  | 10 => some (.cells (.lit ([.bool al])) 4)
  | 11 => some (.cells (.lit ([.func (.func 40) #[] #[.pointer (some ⟨10, 0, none⟩), .pointer (some ⟨9, 0, none⟩)]])) 76)
  | 12 => some (.cells (.lit ([.slice (some ⟨3, 0, none⟩) 2 2])) 22)
  | 13 => some (.marks)
  | 14 => some (.loop ⟨.ready, none, [.func (.yield 7) #[] #[], .pointer (some ⟨4, 0, none⟩), .pointer (some ⟨8, 0, none⟩), .pointer (some ⟨9, 0, none⟩), .pointer (some ⟨10, 0, none⟩), .pointer (some ⟨11, 0, none⟩), undef, undef, .func (.func 40) #[] #[.pointer (some ⟨10, 0, none⟩), .pointer (some ⟨9, 0, none⟩)], .slice (some ⟨3, 0, none⟩) 2 2, .func (.func 43) #[] #[.pointer (some ⟨12, 0, none⟩)]] ++ U 15, #[11], (rngAt Try.prog 39 0).2.1, (rngAt Try.prog 39 0).2.2, 13⟩)
  | _ => none
def E (L : List Int) (n c : Nat) (sz tot hi : Int) (al : Bool) (i : Int) : St := ⟨[.func (.yield 14) #[] #[], .pointer (some ⟨12, 0, none⟩), undef, undef, .slice (some ⟨0, 0, none⟩) n c, undef, .int .u8 0, .slice (some ⟨3, 0, none⟩) 2 2, .int .i64 2, .int .i64 1, .bool true, .pointer (some ⟨3, 1, none⟩), .slice (some ⟨0, 0, none⟩) n c, .slice (some ⟨0, 0, none⟩) n c, .int .i64 (n : Int), .int .i64 i, .bool false, .pointer (some ⟨2, 0, none⟩), .int .u8 0, .func (.yield 14) #[] #[], .int .u8 0, .bool true, .bool false, .int .i64 1, .int .i64 1], [], Tr.rebuild (EH L n c sz tot hi al i) 15, 15, 1, [], fun _ => false, True, []⟩
def RH (L : List Int) (n c : Nat) (sz tot hi : Int) (al : Bool) (i : Int) : Nat → Option Ob := fun i => match i with
  | 0 => some (.cells (.ints .u8 L) 5)
  | 1 => some (.cells (.lit ([.int .u64 tot, .int .i64 sz, .bool true])) 73)
  | 2 => some (.cells (.lit ([.int .u8 0])) 5)
  | 3 => some (.cells (.lit ([.slice (some ⟨2, 0, none⟩) 1 1, .slice (some ⟨0, 0, none⟩) n c])) 23)
  | 4 => some (.cells (.lit ([.slice (some ⟨3, 0, none⟩) 2 2])) 22)
  | 5 => some (.cells (.lit ([.pointer (some ⟨1, 0, none⟩)])) 74)
  | 6 => some (.marks)
  | 7 => some (.loop ⟨.ready, none, [.pointer (some ⟨1, 0, none⟩), .func (.func 39) #[] #[.pointer (some ⟨4, 0, none⟩)], .pointer (some ⟨5, 0, none⟩), undef, undef, .func (.func 39) #[] #[.pointer (some ⟨4, 0, none⟩)]] ++ U 10, #[6], (rngAt Try.prog 31 0).2.1, (rngAt Try.prog 31 0).2.2, 6⟩)
  | 8 => some (.cells (.lit ([.func (.yield 7) #[] #[]])) 75)
  | 9 => some (.cells (.lit ([.int .u16 hi])) 27)
  | 10 => some (.cells (.lit ([.bool al])) 4)
  | 11 => some (.cells (.lit ([.func (.func 40) #[] #[.pointer (some ⟨10, 0, none⟩), .pointer (some ⟨9, 0, none⟩)]])) 76)
  | 12 => some (.cells (.lit ([.slice (some ⟨3, 0, none⟩) 2 2])) 22)
  | 13 => some (.marks)
  | 14 => some (.loop ⟨.ready, none, [.func (.yield 7) #[] #[], .pointer (some ⟨4, 0, none⟩), .pointer (some ⟨8, 0, none⟩), .pointer (some ⟨9, 0, none⟩), .pointer (some ⟨10, 0, none⟩), .pointer (some ⟨11, 0, none⟩), undef, undef, .func (.func 40) #[] #[.pointer (some ⟨10, 0, none⟩), .pointer (some ⟨9, 0, none⟩)], .slice (some ⟨3, 0, none⟩) 2 2, .func (.func 43) #[] #[.pointer (some ⟨12, 0, none⟩)]] ++ U 15, #[11], (rngAt Try.prog 39 0).2.1, (rngAt Try.prog 39 0).2.2, 13⟩)
  | _ => none
def R (L : List Int) (n c : Nat) (sz tot hi : Int) (al : Bool) (i : Int) : St := ⟨[.func (.yield 14) #[] #[], .pointer (some ⟨12, 0, none⟩), undef, undef, .slice (some ⟨0, 0, none⟩) n c, undef, junk, .slice (some ⟨3, 0, none⟩) 2 2, .int .i64 2, .int .i64 1, .bool true, .pointer (some ⟨3, 1, none⟩), .slice (some ⟨0, 0, none⟩) n c, .slice (some ⟨0, 0, none⟩) n c, .int .i64 (n : Int), .int .i64 i] ++ J 3 ++ [.func (.yield 14) #[] #[], junk, .bool true, .bool false, junk, .int .i64 1], [], Tr.rebuild (RH L n c sz tot hi al i) 15, 15, 1, [], fun _ => false, True, []⟩
def XH (L : List Int) (n c : Nat) (sz tot hi : Int) (al : Bool) (i : Int) : Nat → Option Ob := fun i => match i with
  | 0 => some (.cells (.ints .u8 L) 5)
  | 1 => some (.cells (.lit ([.int .u64 tot, .int .i64 sz, .bool true])) 73)
  | 2 => some (.cells (.lit ([.int .u8 0])) 5)
  | 3 => some (.cells (.lit ([.slice (some ⟨2, 0, none⟩) 1 1, .slice (some ⟨0, 0, none⟩) n c])) 23)
  | 4 => some (.cells (.lit ([.slice (some ⟨3, 0, none⟩) 2 2])) 22)
  | 5 => some (.cells (.lit ([.pointer (some ⟨1, 0, none⟩)])) 74)
  | 6 => some (.marks)
  | 7 => some (.loop ⟨.ready, none, [.pointer (some ⟨1, 0, none⟩), .func (.func 39) #[] #[.pointer (some ⟨4, 0, none⟩)], .pointer (some ⟨5, 0, none⟩), undef, undef, .func (.func 39) #[] #[.pointer (some ⟨4, 0, none⟩)]] ++ U 10, #[6], (rngAt Try.prog 31 0).2.1, (rngAt Try.prog 31 0).2.2, 6⟩)
  | 8 => some (.cells (.lit ([.func (.yield 7) #[] #[]])) 75)
  | 9 => some (.cells (.lit ([.int .u16 hi])) 27)
  | 10 => some (.cells (.lit ([.bool al])) 4)
  | 11 => some (.cells (.lit ([.func (.func 40) #[] #[.pointer (some ⟨10, 0, none⟩), .pointer (some ⟨9, 0, none⟩)]])) 76)
  | 12 => some (.cells (.lit ([.slice (some ⟨3, 0, none⟩) 2 2])) 22)
  | 13 => some (.marks)
  | 14 => some (.loop ⟨.ready, none, [.func (.yield 7) #[] #[], .pointer (some ⟨4, 0, none⟩), .pointer (some ⟨8, 0, none⟩), .pointer (some ⟨9, 0, none⟩), .pointer (some ⟨10, 0, none⟩), .pointer (some ⟨11, 0, none⟩), undef, undef, .func (.func 40) #[] #[.pointer (some ⟨10, 0, none⟩), .pointer (some ⟨9, 0, none⟩)], .slice (some ⟨3, 0, none⟩) 2 2, .func (.func 43) #[] #[.pointer (some ⟨12, 0, none⟩)]] ++ U 15, #[11], (rngAt Try.prog 39 0).2.1, (rngAt Try.prog 39 0).2.2, 13⟩)
  | _ => none
def X (L : List Int) (n c : Nat) (sz tot hi : Int) (al : Bool) (i : Int) : St := ⟨[.func (.yield 14) #[] #[], .pointer (some ⟨12, 0, none⟩), undef, undef, .slice (some ⟨0, 0, none⟩) n c, undef, junk, .slice (some ⟨3, 0, none⟩) 2 2, .int .i64 2, .int .i64 1, .bool true, .pointer (some ⟨3, 1, none⟩), .slice (some ⟨0, 0, none⟩) n c, .slice (some ⟨0, 0, none⟩) n c, .int .i64 (n : Int), .int .i64 i] ++ J 3 ++ [.func (.yield 14) #[] #[], junk, .bool true, .bool false, junk, .int .i64 1], [], Tr.rebuild (XH L n c sz tot hi al i) 15, 15, 1, [], fun _ => false, True, []⟩
def ZH (L : List Int) (n c : Nat) (sz tot hi : Int) (al : Bool) (i : Int) : Nat → Option Ob := fun i => match i with
  | 0 => some (.cells (.ints .u8 L) 5)
  | 1 => some (.cells (.lit ([.int .u64 tot, .int .i64 sz, .bool true])) 73)
  | 2 => some (.cells (.lit ([.int .u8 0])) 5)
  | 3 => some (.cells (.lit ([.slice (some ⟨2, 0, none⟩) 1 1, .slice (some ⟨0, 0, none⟩) n c])) 23)
  | 4 => some (.cells (.lit ([.slice (some ⟨3, 0, none⟩) 2 2])) 22)
  | 5 => some (.cells (.lit ([.pointer (some ⟨1, 0, none⟩)])) 74)
  | 6 => some (.marks)
  | 7 => some (.loop ⟨.ready, none, [.pointer (some ⟨1, 0, none⟩), .func (.func 39) #[] #[.pointer (some ⟨4, 0, none⟩)], .pointer (some ⟨5, 0, none⟩), undef, undef, .func (.func 39) #[] #[.pointer (some ⟨4, 0, none⟩)]] ++ U 10, #[6], (rngAt Try.prog 31 0).2.1, (rngAt Try.prog 31 0).2.2, 6⟩)
  | 8 => some (.cells (.lit ([.func (.yield 7) #[] #[]])) 75)
  | 9 => some (.cells (.lit ([.int .u16 hi])) 27)
  | 10 => some (.cells (.lit ([.bool al])) 4)
  | 11 => some (.cells (.lit ([.func (.func 40) #[] #[.pointer (some ⟨10, 0, none⟩), .pointer (some ⟨9, 0, none⟩)]])) 76)
  | 12 => some (.cells (.lit ([.slice (some ⟨3, 0, none⟩) 2 2])) 22)
  | 13 => some (.marks)
  | 14 => some (.loop ⟨.ready, none, [.func (.yield 7) #[] #[], .pointer (some ⟨4, 0, none⟩), .pointer (some ⟨8, 0, none⟩), .pointer (some ⟨9, 0, none⟩), .pointer (some ⟨10, 0, none⟩), .pointer (some ⟨11, 0, none⟩), undef, undef, .func (.func 40) #[] #[.pointer (some ⟨10, 0, none⟩), .pointer (some ⟨9, 0, none⟩)], .slice (some ⟨3, 0, none⟩) 2 2, .func (.func 43) #[] #[.pointer (some ⟨12, 0, none⟩)]] ++ U 15, #[11], (rngAt Try.prog 39 0).2.1, (rngAt Try.prog 39 0).2.2, 13⟩)
  | _ => none
def Z (L : List Int) (n c : Nat) (sz tot hi : Int) (al : Bool) (i : Int) : St := ⟨[.func (.yield 14) #[] #[], .pointer (some ⟨12, 0, none⟩), undef, undef, .slice (some ⟨0, 0, none⟩) n c, undef, .int .u8 0, .slice (some ⟨3, 0, none⟩) 2 2, .int .i64 2, .int .i64 1, .bool true, .pointer (some ⟨3, 1, none⟩), .slice (some ⟨0, 0, none⟩) n c, .slice (some ⟨0, 0, none⟩) n c, .int .i64 (n : Int), .int .i64 i, .bool false, .pointer (some ⟨2, 0, none⟩), .int .u8 0, .func (.yield 14) #[] #[], .int .u8 0, .bool true, .bool false, .int .i64 1, .int .i64 1], [], Tr.rebuild (ZH L n c sz tot hi al i) 15, 15, 1, [], fun _ => false, True, []⟩
theorem eI (L : List Int) (n c : Nat) (sz tot hi : Int) (al : Bool) (i : Int) (tot0 hi0 : Int) (al0 : Bool) (rd : Option Nat) (hp : sr.pI L n al i) :
    Step Try.prog rd (E L n c sz tot0 hi0 al0 0) sr.bodyI (E L n c sz tot hi al i) (fun e s => e = .normal ∧ s = R L n c sz tot (sr.hi1 (sr.x8 L i)) (!al) (sr.w1 i)) :=
  Step.std sr.pg (GivenOk.nothing _) (n := 200) (f := 43) (σ := []) (o := sr.o1) (n1 := 15) (g := RH L n c sz tot (sr.hi1 (sr.x8 L i)) (!al) (sr.w1 i)) (by kernel_rfl) hp (Nat.le_refl _) rfl (by kernel_rfl)
theorem eJ (L : List Int) (n c : Nat) (sz tot hi : Int) (al : Bool) (i : Int) (tot0 hi0 : Int) (al0 : Bool) (rd : Option Nat) (hp : sr.pJ L n al i) :
    Step Try.prog rd (E L n c sz tot0 hi0 al0 0) sr.bodyI (E L n c sz tot hi al i) (fun e s => e = .normal ∧ s = R L n c sz (sr.tot2 tot hi (sr.x8 L i)) hi (!al) (sr.w1 i)) :=
  Step.std sr.pg (GivenOk.nothing _) (n := 200) (f := 43) (σ := []) (o := sr.o2) (n1 := 15) (g := RH L n c sz (sr.tot2 tot hi (sr.x8 L i)) hi (!al) (sr.w1 i)) (by kernel_rfl) hp (Nat.le_refl _) rfl (by kernel_rfl)
theorem rI (L : List Int) (n c : Nat) (sz tot hi : Int) (al : Bool) (i : Int) (tot0 hi0 : Int) (al0 : Bool) (rd : Option Nat) (hp : sr.pI L n al i) :
    Step Try.prog rd (E L n c sz tot0 hi0 al0 0) sr.bodyI (R L n c sz tot hi al i) (fun e s => e = .normal ∧ s = R L n c sz tot (sr.hi1 (sr.x8 L i)) (!al) (sr.w1 i)) :=
  Step.std sr.pg (GivenOk.nothing _) (n := 200) (f := 43) (σ := []) (o := sr.o1) (n1 := 15) (g := RH L n c sz tot (sr.hi1 (sr.x8 L i)) (!al) (sr.w1 i)) (by kernel_rfl) hp (Nat.le_refl _) rfl (by kernel_rfl)
theorem rJ (L : List Int) (n c : Nat) (sz tot hi : Int) (al : Bool) (i : Int) (tot0 hi0 : Int) (al0 : Bool) (rd : Option Nat) (hp : sr.pJ L n al i) :
    Step Try.prog rd (E L n c sz tot0 hi0 al0 0) sr.bodyI (R L n c sz tot hi al i) (fun e s => e = .normal ∧ s = R L n c sz (sr.tot2 tot hi (sr.x8 L i)) hi (!al) (sr.w1 i)) :=
  Step.std sr.pg (GivenOk.nothing _) (n := 200) (f := 43) (σ := []) (o := sr.o2) (n1 := 15) (g := RH L n c sz (sr.tot2 tot hi (sr.x8 L i)) hi (!al) (sr.w1 i)) (by kernel_rfl) hp (Nat.le_refl _) rfl (by kernel_rfl)
theorem xR (L : List Int) (n c : Nat) (sz tot hi : Int) (al : Bool) (i : Int) (tot0 hi0 : Int) (al0 : Bool) (rd : Option Nat) (hp : True ∧ decide (i < (n : Int)) = false) :
    Step Try.prog rd (E L n c sz tot0 hi0 al0 0) sr.bodyI (R L n c sz tot hi al i) (fun e s => e = .exit 2 ∧ s = X L n c sz tot hi al i) :=
  Step.std sr.pg (GivenOk.nothing _) (n := 200) (f := 43) (σ := []) (o := [some false]) (n1 := 15) (g := XH L n c sz tot hi al i) (by kernel_rfl) hp (Nat.le_refl _) rfl (by kernel_rfl)
theorem xE (L : List Int) (n c : Nat) (sz tot hi : Int) (al : Bool) (i : Int) (tot0 hi0 : Int) (al0 : Bool) (rd : Option Nat) (hp : True ∧ decide (i < (n : Int)) = false) :
    Step Try.prog rd (E L n c sz tot0 hi0 al0 0) sr.bodyI (E L n c sz tot hi al i) (fun e s => e = .exit 2 ∧ s = Z L n c sz tot hi al i) :=
  Step.std sr.pg (GivenOk.nothing _) (n := 200) (f := 43) (σ := []) (o := [some false]) (n1 := 15) (g := ZH L n c sz tot hi al i) (by kernel_rfl) hp (Nat.le_refl _) rfl (by kernel_rfl)
theorem loopI (L : List Int) (n c : Nat) (sz tot hi : Int) (al : Bool) (rd : Option Nat) (h0 : 0 < n) (hL : n ≤ L.length) (hn : n ≤ 4611686018427387904) :
    CodeOk Try.prog rd (.loop sr.bodyI) (E L n c sz tot hi al 0) (.exit 2) (X L n c sz (sr.scan L n 0 tot hi al).1 (sr.scan L n 0 tot hi al).2.1 (sr.scan L n 0 tot hi al).2.2 n) := by
  refine CodeOk.of_step (Step.loop (fun k s => (k = n + 1 ∧ s = E L n c sz tot hi al 0) ∨ ∃ (j : Nat) (t' h' : Int) (a' : Bool), 1 ≤ j ∧ j ≤ n ∧ k = n - j ∧ s = R L n c sz t' h' a' j ∧ sr.scan L (n - j) j t' h' a' = sr.scan L n 0 tot hi al) ?_ (n + 1) _ (.inl ⟨rfl, rfl⟩))
  rintro k s (⟨rfl, rfl⟩ | ⟨j, t', h', a', h1, h2, rfl, rfl, h3⟩)
  · obtain ⟨m, rfl⟩ : ∃ m, n = m + 1 := ⟨n - 1, by omega⟩
    cases al with
    | false =>
      refine (eI L (m + 1) c sz tot hi false ((0 : Nat) : Int) tot hi false rd (sr.pI_ok h0 hL)).mono ?_
      rintro e s ⟨rfl, rfl⟩
      refine .inl ⟨rfl, m + 1 - 1, by omega, .inr ⟨1, tot, sr.hi1 (L.getD 0 0), true, Nat.le_refl _, h0, rfl, ?_, ?_⟩⟩
      · rw [sr.w1_eq h0 hn, sr.x8_eq]; rfl
      · simp only [sr.scan, Nat.add_sub_cancel, Nat.zero_add]
    | true =>
      refine (eJ L (m + 1) c sz tot hi true ((0 : Nat) : Int) tot hi true rd (sr.pJ_ok h0 hL)).mono ?_
      rintro e s ⟨rfl, rfl⟩
      refine .inl ⟨rfl, m + 1 - 1, by omega, .inr ⟨1, sr.tot2 tot hi (L.getD 0 0), hi, false, Nat.le_refl _, h0, rfl, ?_, ?_⟩⟩
      · rw [sr.w1_eq h0 hn, sr.x8_eq]; rfl
      · simp only [sr.scan, Nat.add_sub_cancel, Nat.zero_add]
  · by_cases e : j = n
    · subst e
      refine (xR L j c sz t' h' a' (j : Int) tot hi al rd ⟨trivial, by rw [decide_eq_false_iff_not]; omega⟩).mono ?_
      rintro e s ⟨rfl, rfl⟩
      refine .inr ⟨(by intro x; cases x), rfl, ?_⟩
      rw [← h3, Nat.sub_self]; rfl
    · have hlt : j < n := by omega
      have e1 : n - j = (n - (j + 1)) + 1 := by omega
      cases a' with
      | false =>
        refine (rI L n c sz t' h' false (j : Int) tot hi al rd (sr.pI_ok hlt hL)).mono ?_
        rintro e s ⟨rfl, rfl⟩
        refine .inl ⟨rfl, n - (j + 1), by omega, .inr ⟨j + 1, t', sr.hi1 (L.getD j 0), true, by omega, by omega, rfl, ?_, ?_⟩⟩
        · rw [sr.w1_eq hlt hn, sr.x8_eq]; rfl
        · rw [← h3, e1]; rfl
      | true =>
        refine (rJ L n c sz t' h' true (j : Int) tot hi al rd (sr.pJ_ok hlt hL)).mono ?_
        rintro e s ⟨rfl, rfl⟩
        refine .inl ⟨rfl, n - (j + 1), by omega, .inr ⟨j + 1, sr.tot2 t' h' (L.getD j 0), h', false, by omega, by omega, rfl, ?_, ?_⟩⟩
        · rw [sr.w1_eq hlt hn, sr.x8_eq]; rfl
        · rw [← h3, e1]; rfl
theorem loopZ (L : List Int) (c : Nat) (sz tot hi : Int) (al : Bool) (rd : Option Nat) :
    CodeOk Try.prog rd (.loop sr.bodyI) (E L 0 c sz tot hi al 0) (.exit 2) (Z L 0 c sz tot hi al 0) := by
  refine CodeOk.of_step (Step.loop (fun q s => s = E L 0 c sz tot hi al 0) ?_ 0 _ rfl)
  rintro q s rfl
  refine (xE L 0 c sz tot hi al 0 tot hi al rd ⟨trivial, by rw [decide_eq_false_iff_not]; omega⟩).mono ?_
  rintro e s ⟨rfl, rfl⟩
  exact .inr ⟨(by intro x; cases x), rfl, rfl⟩
end wo
end
end sp
end Go.Proofs.Yteknepfcbpoooab
namespace Go.Proofs.Yteknepfcbpoooab
open Go.ChangeShapes Go.WideShapes Go.ChangeAt Go.RowKit Go.Cln
namespace sp
open sd
set_option linter.unusedVariables false
noncomputable section
def T : Option Bool := some true
def F : Option Bool := some false
def fr0 : Frm2 := ⟨[], [], [], []⟩
def askW (X : St) (f : FuncId) (c : Code) (S : St) : Option Ask2 := if f == 43 then match getL S.tmps 13, getL S.tmps 9 with
  | .slice (some _) _ _, .int _ k => if k == 1 then some ⟨fr0, .exit 2, fun _ => X⟩ else none
  | _, _ => none else none
def KW (X : St) : Given := Given.asking2 pa.K0 Try.prog (askW X)
theorem KW_ok (X : St) : GivenOk Try.prog (KW X) := pa.K0_ok.asking2 _
def hW (L : List Int) (tot sz : Int) : List (Option Ob) := [some (.cells (.ints .u8 L) 5), some (.cells (.lit [.int .u64 tot, .int .i64 sz, .bool true]) 73)]
def kW : List Bool := [true, true] ++ List.replicate 13 false
def callW (X : St) (n c : Nat) (L : List Int) (tot sz : Int) (o : List (Option Bool)) : Option (Value × Prop × Nat × List (Option Ob)) := ((mk Try.prog (KW X) 200).call 27 [.pointer (some ⟨1, 0, none⟩), .slice (some ⟨0, 0, none⟩) n c] (smSt 1 (hW L tot sz) o)).map (fun r => (r.1, r.2.obl, r.2.next, keepL kW r.2.heap.get 0))
def rem2 (sz : Int) (m : Int) : Prop := (2 : Int) ≠ 0 ∧ sz.tmod 2 = m
def add1 (sz : Int) (n : Nat) : Prop := IntKind.i64.wrap (sz + nI n) = sz + nI n
def t2 (tot hi : Int) : Int := IntKind.u64.wrap (tot + IntKind.u64.wrap hi)
theorem run_we_f (L : List Int) (n c : Nat) (sz tot t h : Int) (al : Bool) : callW (we.X L n c sz t h al n) n c L tot sz [none, none, none, none, none, none, none, F, T, F, T, F, T, F, T, none, none, none, none, none, none, none, none, none, F, T] =
    some (.int .i64 0, (((True ∧ rem2 sz 0) ∧ (∀ rd, CodeOk Try.prog rd (.loop sr.bodyI) (we.E L n c sz tot 0 false 0) (.exit 2) (we.X L n c sz t h al n))) ∧ al = false) ∧ add1 sz n, (hW L (t) (sz + nI n) ++ nones 13).length, hW L (t) (sz + nI n) ++ nones 13) := by kernel_rfl
theorem run_we_t (L : List Int) (n c : Nat) (sz tot t h : Int) (al : Bool) : callW (we.X L n c sz t h al n) n c L tot sz [none, none, none, none, none, none, none, F, T, F, T, F, T, F, T, none, none, none, none, none, none, none, none, none, T, none, none, T] =
    some (.int .i64 0, (((True ∧ rem2 sz 0) ∧ (∀ rd, CodeOk Try.prog rd (.loop sr.bodyI) (we.E L n c sz tot 0 false 0) (.exit 2) (we.X L n c sz t h al n))) ∧ al = true) ∧ add1 sz n, (hW L (t2 t h) (sz + nI n) ++ nones 13).length, hW L (t2 t h) (sz + nI n) ++ nones 13) := by kernel_rfl
theorem run_we_z (L : List Int) (c : Nat) (sz tot : Int) : callW (we.Z L 0 c sz tot 0 false 0) 0 c L tot sz [none, none, none, none, none, none, none, F, T, F, T, F, T, F, T, none, none, none, none, none, none, none, none, none, none, T] =
    some (.int .i64 0, ((True ∧ rem2 sz 0) ∧ (∀ rd, CodeOk Try.prog rd (.loop sr.bodyI) (we.E L 0 c sz tot 0 false 0) (.exit 2) (we.Z L 0 c sz tot 0 false 0))) ∧ add1 sz 0, (hW L (tot) (sz + nI 0) ++ nones 13).length, hW L (tot) (sz + nI 0) ++ nones 13) := by kernel_rfl
theorem run_wo_f (L : List Int) (n c : Nat) (sz tot t h : Int) (al : Bool) : callW (wo.X L n c sz t h al n) n c L tot sz [none, none, none, none, none, none, none, F, T, F, T, F, T, F, none, T, none, none, none, none, none, none, none, none, none, none, none, none, none, none, none, none, F, T] =
    some (.int .i64 0, (((True ∧ rem2 sz 1) ∧ (∀ rd, CodeOk Try.prog rd (.loop sr.bodyI) (wo.E L n c sz tot 0 true 0) (.exit 2) (wo.X L n c sz t h al n))) ∧ al = false) ∧ add1 sz n, (hW L (t) (sz + nI n) ++ nones 13).length, hW L (t) (sz + nI n) ++ nones 13) := by kernel_rfl
theorem run_wo_t (L : List Int) (n c : Nat) (sz tot t h : Int) (al : Bool) : callW (wo.X L n c sz t h al n) n c L tot sz [none, none, none, none, none, none, none, F, T, F, T, F, T, F, none, T, none, none, none, none, none, none, none, none, none, none, none, none, none, none, none, none, T, none, none, T] =
    some (.int .i64 0, (((True ∧ rem2 sz 1) ∧ (∀ rd, CodeOk Try.prog rd (.loop sr.bodyI) (wo.E L n c sz tot 0 true 0) (.exit 2) (wo.X L n c sz t h al n))) ∧ al = true) ∧ add1 sz n, (hW L (t2 t h) (sz + nI n) ++ nones 13).length, hW L (t2 t h) (sz + nI n) ++ nones 13) := by kernel_rfl
theorem run_wo_z (L : List Int) (c : Nat) (sz tot : Int) : callW (wo.Z L 0 c sz tot 0 true 0) 0 c L tot sz [none, none, none, none, none, none, none, F, T, F, T, F, T, F, none, T, none, none, none, none, none, none, none, none, none, none, none, none, none, none, none, none, none, none, none, T] =
    some (.int .i64 0, ((True ∧ rem2 sz 1) ∧ (∀ rd, CodeOk Try.prog rd (.loop sr.bodyI) (wo.E L 0 c sz tot 0 true 0) (.exit 2) (wo.Z L 0 c sz tot 0 true 0))) ∧ add1 sz 0, (hW L (t2 tot 0) (sz + nI 0) ++ nones 13).length, hW L (t2 tot 0) (sz + nI 0) ++ nones 13) := by kernel_rfl
end
end sp
end Go.Proofs.Yteknepfcbpoooab
namespace Go.Proofs.Yteknepfcbpoooab
open Go.ChangeShapes Go.WideShapes Go.ChangeAt Go.RowKit Go.Cln
namespace sp
open sd
set_option linter.unusedVariables false
noncomputable section
def upd (tot sz : Int) (l : List Int) : Int := tot + wsum (if sz % 2 = 0 then l else 0 :: l)
theorem rem2_of {sz m : Int} (h0 : 0 ≤ sz) (h : sz % 2 = m) : rem2 sz m := ⟨by decide, by rw [Int.tmod_eq_emod_of_nonneg h0]; exact h⟩
theorem add1_of {sz : Int} {n : Nat} (h0 : 0 ≤ sz) (h : sz + n < 4611686018427387904) : add1 sz n := by unfold add1; simp only [nI]; rw [IntKind.wrap_i64]; omega
theorem t2_of {t h : Int} (h0 : 0 ≤ t) (h1 : 0 ≤ h ∧ h < 65536) (h2 : t + h < 18446744073709551616) : t2 t h = t + h := by unfold t2; rw [IntKind.wrap_u64, IntKind.wrap_u64]; omega
abbrev WOk (L : List Int) (n c : Nat) (tot sz : Int) : Prop := CallOk Try.prog 27 [.pointer (some ⟨1, 0, none⟩), .slice (some ⟨0, 0, none⟩) n c] (smSt 1 (hW L tot sz) []) (.int .i64 0) (smSt 1 (hW L (upd tot sz L) (sz + nI n) ++ nones 13) [])
theorem write_ok {L : List Int} {n c : Nat} {tot sz : Int} (hB : Byt L) (hn : n = L.length) (hs : n ≤ 1099511627776) (h0 : 0 ≤ tot) (h1 : tot + 65536 * (n + 2) < 18446744073709551616) (hz : 0 ≤ sz) (hz1 : sz + n < 4611686018427387904) : WOk L n c tot sz := by
  have ha := add1_of hz hz1
  have hw := wsum_bound L hB
  by_cases hp : sz % 2 = 0
  · have hr := rem2_of hz hp
    by_cases hn0 : n = 0
    · subst hn0
      obtain rfl : L = [] := List.eq_nil_of_length_eq_zero hn.symm
      have e : upd tot sz [] = tot := by unfold upd; rw [if_pos hp]; simp [wsum]
      unfold WOk
      rw [e]
      exact frame_by sr.pg (KW_ok _) kW (run_we_z [] c sz tot) ⟨⟨⟨trivial, hr⟩, fun rd => we.loopZ _ _ _ _ _ _ rd⟩, ha⟩ (by rfl) rfl
    · have e : upd tot sz L = tot + wsum L := by unfold upd; rw [if_pos hp]
      obtain ⟨s1, s2, s3⟩ := (scan_eq hB n 0 (by omega) tot h0 (by omega)).1 0
      have et : (L.drop 0).take n = L := by rw [List.drop_zero, hn, List.take_length]
      rw [et] at s1 s2
      have lp := fun rd => we.loopI L n c sz tot 0 false rd (by omega) (by omega) (by omega)
      unfold WOk
      cases hal : (sr.scan L n 0 tot 0 false).2.2 with
      | false =>
        have e2 := s2 hal
        have := frame_by sr.pg (KW_ok _) kW (run_we_f L n c sz tot _ _ _) ⟨⟨⟨⟨trivial, hr⟩, lp⟩, hal⟩, ha⟩ (by rfl) rfl
        rw [e2, ← e] at this; exact this
      | true =>
        obtain ⟨q1, q2, q3⟩ := s3 hal
        unfold rt at s1
        rw [hal, if_pos rfl] at s1
        have e2 : t2 (sr.scan L n 0 tot 0 false).1 (sr.scan L n 0 tot 0 false).2.1 = tot + wsum L := by rw [t2_of q3 ⟨q1, q2⟩ (by omega)]; exact s1
        have := frame_by sr.pg (KW_ok _) kW (run_we_t L n c sz tot _ _ _) ⟨⟨⟨⟨trivial, hr⟩, lp⟩, hal⟩, ha⟩ (by rfl) rfl
        rw [e2, ← e] at this; exact this
  · have hr := rem2_of hz (show sz % 2 = 1 by omega)
    have hw2 : wsum (0 :: L) ≤ 65536 * (n + 1) := by
      have := (wsum_bound (0 :: L) (fun x hx => by
        rcases List.mem_cons.1 hx with rfl | hx
        · omega
        · exact hB x hx)).2
      simp only [List.length_cons] at this
      omega
    by_cases hn0 : n = 0
    · subst hn0
      obtain rfl : L = [] := List.eq_nil_of_length_eq_zero hn.symm
      have e : upd tot sz [] = t2 tot 0 := by unfold upd; rw [if_neg hp, t2_of h0 (by omega) (by omega)]; simp [wsum]
      unfold WOk
      rw [e]
      exact frame_by sr.pg (KW_ok _) kW (run_wo_z [] c sz tot) ⟨⟨⟨trivial, hr⟩, fun rd => wo.loopZ _ _ _ _ _ _ rd⟩, ha⟩ (by rfl) rfl
    · have e : upd tot sz L = tot + wsum (0 :: L) := by unfold upd; rw [if_neg hp]
      obtain ⟨s1, s2, s3⟩ := (scan_eq hB n 0 (by omega) tot h0 (by omega)).2 0 (by omega)
      have et : (L.drop 0).take n = L := by rw [List.drop_zero, hn, List.take_length]
      have e0 : (0 : Int) * 256 = 0 := by decide
      rw [et, e0] at s1 s2
      rw [e0] at s3
      have lp := fun rd => wo.loopI L n c sz tot 0 true rd (by omega) (by omega) (by omega)
      unfold WOk
      cases hal : (sr.scan L n 0 tot 0 true).2.2 with
      | false =>
        have e2 := s2 hal
        have := frame_by sr.pg (KW_ok _) kW (run_wo_f L n c sz tot _ _ _) ⟨⟨⟨⟨trivial, hr⟩, lp⟩, hal⟩, ha⟩ (by rfl) rfl
        rw [e2, ← e] at this; exact this
      | true =>
        obtain ⟨q1, q2, q3⟩ := s3 hal
        unfold rt at s1
        rw [hal, if_pos rfl] at s1
        have e2 : t2 (sr.scan L n 0 tot 0 true).1 (sr.scan L n 0 tot 0 true).2.1 = tot + wsum (0 :: L) := by rw [t2_of q3 ⟨q1, q2⟩ (by omega)]; exact s1
        have := frame_by sr.pg (KW_ok _) kW (run_wo_t L n c sz tot _ _ _) ⟨⟨⟨⟨trivial, hr⟩, lp⟩, hal⟩, ha⟩ (by rfl) rfl
        rw [e2, ← e] at this; exact this
end
end sp
end Go.Proofs.Yteknepfcbpoooab
namespace Go.Proofs.Yteknepfcbpoooab
open Go.ChangeShapes Go.WideShapes Go.ChangeAt Go.RowKit Go.Cln
namespace sp
open sd
open pa (rawN)
open pc (RT)
set_option linter.unusedVariables false
noncomputable section
def F27 (f : FuncId) (args : List Value) (s : St) : Option Inst := if f == 27 then match args with
  | [.pointer (some ⟨p, 0, none⟩), .slice (some ⟨b, o, g⟩) n c] => match s.heap.get b with
    | some (.cells (.ints .u8 l) _) => match s.heap.get p with
      | some (.cells (.lit [.int .u64 tot, .int .i64 sz, .bool true]) _) => if isAbs g then none else
        some ⟨[(b, o), (p, 0)], 1, hW ((l.drop o).take n) tot sz, [.pointer (some ⟨1, 0, none⟩), .slice (some ⟨0, 0, g⟩) n c], .int .i64 0, hW ((l.drop o).take n) (upd tot sz ((l.drop o).take n)) (sz + nI n) ++ nones 13,
          Byt ((l.drop o).take n) ∧ n = ((l.drop o).take n).length ∧ n ≤ 1000 ∧ (0 ≤ tot ∧ tot ≤ 1000000000000) ∧ (0 ≤ sz ∧ sz ≤ 1000000000000) ∧ n ≤ c⟩
      | _ => none
    | _ => none
  | _ => none else none
theorem F27_ok (f : FuncId) (args : List Value) (s : St) (i : Inst) (h : F27 f args s = some i) : Fits s i args ∧ (i.ask → CallOk Try.prog f i.args i.s0 i.val i.s1) := by
  unfold F27 at h
  split at h
  · rename_i hf
    have hf' : f = 27 := by simpa using hf
    subst hf'
    split at h
    · rename_i p b o g n c
      split at h
      · rename_i l tb hb
        split at h
        · rename_i tot sz tp hp
          split at h
          · cases h
          · rename_i hg
            have hg : isAbs g = false := by simpa using hg
            cases h
            refine ⟨⟨?_, fun j pp ob h1 h2 => ?_⟩, fun ha => ?_⟩
            · show [Value.pointer (some ⟨p, 0, none⟩), Value.slice (some ⟨b, o, g⟩) n c] = [Value.pointer (some ⟨p, addO 0 0, none⟩), mv _ _ (.slice (some ⟨0, 0, g⟩) n c)]
              cases g with
              | none => show _ = [Value.pointer (some ⟨p, addO 0 0, none⟩), Value.slice (some ⟨b, addO o 0, none⟩) n c]; rw [addO_eq, addO_eq]; rfl
              | some z =>
                have e : mv (Inst.nu ⟨[(b, o), (p, 0)], 1, hW ((l.drop o).take n) tot sz, [.pointer (some ⟨1, 0, none⟩), .slice (some ⟨0, 0, some z⟩) n c], .int .i64 0, hW ((l.drop o).take n) (upd tot sz ((l.drop o).take n)) (sz + nI n) ++ nones 13,
                    Byt ((l.drop o).take n) ∧ n = ((l.drop o).take n).length ∧ n ≤ 1000 ∧ (0 ≤ tot ∧ tot ≤ 1000000000000) ∧ (0 ≤ sz ∧ sz ≤ 1000000000000) ∧ n ≤ c⟩ s.next) (Inst.del ⟨[(b, o), (p, 0)], 1, hW ((l.drop o).take n) tot sz, [.pointer (some ⟨1, 0, none⟩), .slice (some ⟨0, 0, some z⟩) n c], .int .i64 0, hW ((l.drop o).take n) (upd tot sz ((l.drop o).take n)) (sz + nI n) ++ nones 13,
                    Byt ((l.drop o).take n) ∧ n = ((l.drop o).take n).length ∧ n ≤ 1000 ∧ (0 ≤ tot ∧ tot ≤ 1000000000000) ∧ (0 ≤ sz ∧ sz ≤ 1000000000000) ∧ n ≤ c⟩) (.slice (some ⟨0, 0, some z⟩) n c) = .slice (some ⟨b, o, some z⟩) n c := by
                  show mvL _ _ (.slice (some ⟨0, 0, some z⟩) n c) = _
                  unfold mvL
                  simp only [hg]
                  show Value.slice (some ⟨b, addO o 0, some z⟩) n c = _
                  rw [addO_eq]; rfl
                rw [e, addO_eq]
            · rcases j with _ | _ | j
              · simp only [List.getElem?_cons_zero, Option.some.injEq] at h1
                subst h1
                simp only [hW, List.getElem?_cons_zero, Option.some.injEq] at h2
                subst h2
                exact ⟨_, hb, fit_ints⟩
              · simp only [List.getElem?_cons_succ, List.getElem?_cons_zero, Option.some.injEq] at h1
                subst h1
                simp only [hW, List.getElem?_cons_succ, List.getElem?_cons_zero, Option.some.injEq] at h2
                subst h2
                exact ⟨_, hp, fit_flat (fun x v hv => by rw [Nat.zero_add]; exact hv) rfl⟩
              · simp at h1
            · obtain ⟨q1, q2, q3, q4, q5, q6⟩ := ha
              exact CallOk.grows g [.pointer (some ⟨1, 0, none⟩)] [] (fun c _ => write_ok q1 q2 (by omega) q4.1 (by omega) q5.1 (by omega)) c q6 hg
        · cases h
      · cases h
    · cases h
  · cases h
structure Sd where
  t : Int
  s : Int
  L : List Int
  a : Nat
  q : Nat
abbrev VF := Nat → Value
def S (n c : Nat) : Value := .slice (some ⟨1, 0, none⟩) n c
def tm (v : VF) (n c k : Nat) : List Value := [S n c, undef, .bool false, .slice (some ⟨4, 0, none⟩) 2 2, .pointer (some ⟨5, 0, none⟩), .int .i64 (nI k), v 6, v 7, v 8, v 9, v 10, v 11, v 12, v 13, v 14, v 15, v 16, v 17, v 18, v 19, v 20, v 21, v 22, v 23, v 24, v 25, v 26, v 27, v 28, v 29, v 30, v 31, v 32, v 33, v 34, v 35, v 36, v 37, v 38, v 39, v 40, v 41, v 42, v 43, v 44, v 45, v 46, v 47, v 48, v 49, v 50, v 51, v 52, v 53, v 54, v 55, v 56, v 57, v 58, v 59, v 60, v 61, v 62, v 63, v 64, v 65, v 66, v 67, v 68, v 69, v 70, v 71, v 72, v 73, v 74, v 75, v 76, v 77, v 78, v 79, v 80, v 81, v 82, v 83, v 84, v 85, v 86, v 87, v 88, v 89, v 90, v 91, v 92, v 93, v 94, v 95, v 96, v 97, v 98, v 99, v 100, v 101, v 102, v 103, v 104, v 105, v 106, v 107, v 108, v 109, v 110, v 111, v 112, v 113, v 114, v 115, v 116, v 117, v 118, v 119, v 120, v 121, v 122, v 123, v 124, v 125, v 126, v 127, v 128, v 129, v 130, v 131, v 132, v 133, v 134, v 135, v 136, v 137, v 138, v 139, v 140, v 141, v 142, v 143, v 144, v 145, v 146, v 147, v 148, v 149, v 150, v 151, v 152, v 153, v 154, v 155, v 156, v 157, v 158, v 159, v 160, v 161, v 162, v 163]
def ob (A : Sd) : Option Ob := some (.cells (.ints .u8 A.L) 5)
def sl (b : Nat) (A : Sd) : Value := .slice (some ⟨b, 0, some 1⟩) A.a A.q
abbrev HF := Acts → Nat → Sd → Sd → Nat → Option Ob
def st (H : HF) (x : Acts) (n c k : Nat) (A B : Sd) (v : VF) : St := ⟨tm v n c k, [], Tr.rebuild (H x n A B) 10, 10, 2, [], fun _ => false, True, []⟩
def lb : Code := loopB Try.prog 7 0
end
end sp
end Go.Proofs.Yteknepfcbpoooab
