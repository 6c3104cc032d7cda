/- Read off the code by the clean reading. -/
import Derived.Test.YteknepfcbpoooabClnSd
set_option linter.unusedVariables false
set_option linter.unusedSimpArgs false
set_option linter.deprecated false
set_option maxRecDepth 100000
namespace Go.Proofs.Yteknepfcbpoooab
open Go.ChangeShapes Go.WideShapes Go.ChangeAt Go.RowKit Go.Cln
namespace st
set_option linter.unusedVariables false
noncomputable section
namespace a1
def EH (La Lb : List Int) (n c m d : Nat) (g h : Option Nat) (tot hi : Int) (al : Bool) (i : Int) : Nat → Option Ob := fun i => match i with
  | 0 => some (.cells (.ints .u8 La) 5)
  | 1 => some (.cells (.lit ([.slice (some ⟨0, 0, g⟩) n c, .slice none 0 0])) 23)
  | 2 => some (.cells (.lit ([.int .u64 tot])) 62)
  | 3 => some (.cells (.lit ([.slice (some ⟨1, 0, none⟩) 2 2])) 22)
  | 4 => some (.cells (.lit ([.pointer (some ⟨2, 0, none⟩)])) 74)
  | 5 => some (.marks)
  | 6 => some (.loop ⟨.ready, none, [.pointer (some ⟨2, 0, none⟩), .func (.func 39) #[] #[.pointer (some ⟨3, 0, none⟩)], .pointer (some ⟨4, 0, none⟩), undef, undef, .func (.func 39) #[] #[.pointer (some ⟨3, 0, none⟩)]] ++ U 10, #[6], (rngAt Try.prog 31 0).2.1, (rngAt Try.prog 31 0).2.2, 5⟩)
  | 7 => some (.cells (.lit ([.func (.yield 6) #[] #[]])) 75)
  | 8 => some (.cells (.lit ([.int .u16 hi])) 27)
  | 9 => some (.cells (.lit ([.bool al])) 4)
  | 10 => some (.cells (.lit ([.func (.func 40) #[] #[.pointer (some ⟨9, 0, none⟩), .pointer (some ⟨8, 0, none⟩)]])) 76)
  | 11 => some (.cells (.lit ([.slice (some ⟨1, 0, none⟩) 2 2])) 22)
  | 12 => some (.marks)
  | 13 => some (.loop ⟨.ready, none, [.func (.yield 6) #[] #[], .pointer (some ⟨3, 0, none⟩), .pointer (some ⟨7, 0, none⟩), .pointer (some ⟨8, 0, none⟩), .pointer (some ⟨9, 0, none⟩), .pointer (some ⟨10, 0, none⟩), undef, undef, .func (.func 40) #[] #[.pointer (some ⟨9, 0, none⟩), .pointer (some ⟨8, 0, none⟩)], .slice (some ⟨1, 0, none⟩) 2 2, .func (.func 43) #[] #[.pointer (some ⟨11, 0, none⟩)]] ++ U 15, #[11], (rngAt Try.prog 39 0).2.1, (rngAt Try.prog 39 0).2.2, 12⟩)
  | _ => none
def E (La Lb : List Int) (n c m d : Nat) (g h : Option Nat) (tot hi : Int) (al : Bool) (i : Int) : St := ⟨[.func (.yield 13) #[] #[], .pointer (some ⟨11, 0, none⟩), undef, undef, .slice (some ⟨0, 0, g⟩) n c, undef, undef, .slice (some ⟨1, 0, none⟩) 2 2, .int .i64 2, .int .i64 0, .bool true, .pointer (some ⟨1, 0, none⟩), .slice (some ⟨0, 0, g⟩) n c, .slice (some ⟨0, 0, g⟩) n c, .int .i64 (n : Int), .int .i64 i] ++ U 9, [], Tr.rebuild (EH La Lb n c m d g h tot hi al i) 14, 14, 2, [], fun _ => false, True, []⟩
def RH (La Lb : List Int) (n c m d : Nat) (g h : Option Nat) (tot hi : Int) (al : Bool) (i : Int) : Nat → Option Ob := fun i => match i with
  | 0 => some (.cells (.ints .u8 La) 5)
  | 1 => some (.cells (.lit ([.slice (some ⟨0, 0, g⟩) n c, .slice none 0 0])) 23)
  | 2 => some (.cells (.lit ([.int .u64 tot])) 62)
  | 3 => some (.cells (.lit ([.slice (some ⟨1, 0, none⟩) 2 2])) 22)
  | 4 => some (.cells (.lit ([.pointer (some ⟨2, 0, none⟩)])) 74)
  | 5 => some (.marks)
  | 6 => some (.loop ⟨.ready, none, [.pointer (some ⟨2, 0, none⟩), .func (.func 39) #[] #[.pointer (some ⟨3, 0, none⟩)], .pointer (some ⟨4, 0, none⟩), undef, undef, .func (.func 39) #[] #[.pointer (some ⟨3, 0, none⟩)]] ++ U 10, #[6], (rngAt Try.prog 31 0).2.1, (rngAt Try.prog 31 0).2.2, 5⟩)
  | 7 => some (.cells (.lit ([.func (.yield 6) #[] #[]])) 75)
  | 8 => some (.cells (.lit ([.int .u16 hi])) 27)
  | 9 => some (.cells (.lit ([.bool al])) 4)
  | 10 => some (.cells (.lit ([.func (.func 40) #[] #[.pointer (some ⟨9, 0, none⟩), .pointer (some ⟨8, 0, none⟩)]])) 76)
  | 11 => some (.cells (.lit ([.slice (some ⟨1, 0, none⟩) 2 2])) 22)
  | 12 => some (.marks)
  | 13 => some (.loop ⟨.ready, none, [.func (.yield 6) #[] #[], .pointer (some ⟨3, 0, none⟩), .pointer (some ⟨7, 0, none⟩), .pointer (some ⟨8, 0, none⟩), .pointer (some ⟨9, 0, none⟩), .pointer (some ⟨10, 0, none⟩), undef, undef, .func (.func 40) #[] #[.pointer (some ⟨9, 0, none⟩), .pointer (some ⟨8, 0, none⟩)], .slice (some ⟨1, 0, none⟩) 2 2, .func (.func 43) #[] #[.pointer (some ⟨11, 0, none⟩)]] ++ U 15, #[11], (rngAt Try.prog 39 0).2.1, (rngAt Try.prog 39 0).2.2, 12⟩)
  | _ => none
def R (La Lb : List Int) (n c m d : Nat) (g h : Option Nat) (tot hi : Int) (al : Bool) (i : Int) : St := ⟨[.func (.yield 13) #[] #[], .pointer (some ⟨11, 0, none⟩), undef, undef, .slice (some ⟨0, 0, g⟩) n c, undef, junk, .slice (some ⟨1, 0, none⟩) 2 2, .int .i64 2, .int .i64 0, .bool true, .pointer (some ⟨1, 0, none⟩), .slice (some ⟨0, 0, g⟩) n c, .slice (some ⟨0, 0, g⟩) n c, .int .i64 (n : Int), .int .i64 i, .bool true, junk, junk, .func (.yield 13) #[] #[], junk, .bool true, .bool false, junk, undef], [], Tr.rebuild (RH La Lb n c m d g h tot hi al i) 14, 14, 2, [], fun _ => false, True, []⟩
def XH (La Lb : List Int) (n c m d : Nat) (g h : Option Nat) (tot hi : Int) (al : Bool) (i : Int) : Nat → Option Ob := fun i => match i with
  | 0 => some (.cells (.ints .u8 La) 5)
  | 1 => some (.cells (.lit ([.slice (some ⟨0, 0, g⟩) n c, .slice none 0 0])) 23)
  | 2 => some (.cells (.lit ([.int .u64 tot])) 62)
  | 3 => some (.cells (.lit ([.slice (some ⟨1, 0, none⟩) 2 2])) 22)
  | 4 => some (.cells (.lit ([.pointer (some ⟨2, 0, none⟩)])) 74)
  | 5 => some (.marks)
  | 6 => some (.loop ⟨.ready, none, [.pointer (some ⟨2, 0, none⟩), .func (.func 39) #[] #[.pointer (some ⟨3, 0, none⟩)], .pointer (some ⟨4, 0, none⟩), undef, undef, .func (.func 39) #[] #[.pointer (some ⟨3, 0, none⟩)]] ++ U 10, #[6], (rngAt Try.prog 31 0).2.1, (rngAt Try.prog 31 0).2.2, 5⟩)
  | 7 => some (.cells (.lit ([.func (.yield 6) #[] #[]])) 75)
  | 8 => some (.cells (.lit ([.int .u16 hi])) 27)
  | 9 => some (.cells (.lit ([.bool al])) 4)
  | 10 => some (.cells (.lit ([.func (.func 40) #[] #[.pointer (some ⟨9, 0, none⟩), .pointer (some ⟨8, 0, none⟩)]])) 76)
  | 11 => some (.cells (.lit ([.slice (some ⟨1, 0, none⟩) 2 2])) 22)
  | 12 => some (.marks)
  | 13 => some (.loop ⟨.ready, none, [.func (.yield 6) #[] #[], .pointer (some ⟨3, 0, none⟩), .pointer (some ⟨7, 0, none⟩), .pointer (some ⟨8, 0, none⟩), .pointer (some ⟨9, 0, none⟩), .pointer (some ⟨10, 0, none⟩), undef, undef, .func (.func 40) #[] #[.pointer (some ⟨9, 0, none⟩), .pointer (some ⟨8, 0, none⟩)], .slice (some ⟨1, 0, none⟩) 2 2, .func (.func 43) #[] #[.pointer (some ⟨11, 0, none⟩)]] ++ U 15, #[11], (rngAt Try.prog 39 0).2.1, (rngAt Try.prog 39 0).2.2, 12⟩)
  | _ => none
def X (La Lb : List Int) (n c m d : Nat) (g h : Option Nat) (tot hi : Int) (al : Bool) (i : Int) : St := ⟨[.func (.yield 13) #[] #[], .pointer (some ⟨11, 0, none⟩), undef, undef, .slice (some ⟨0, 0, g⟩) n c, undef, junk, .slice (some ⟨1, 0, none⟩) 2 2, .int .i64 2, .int .i64 0, .bool true, .pointer (some ⟨1, 0, none⟩), .slice (some ⟨0, 0, g⟩) n c, .slice (some ⟨0, 0, g⟩) n c, .int .i64 (n : Int), .int .i64 i, .bool false, junk, junk, .func (.yield 13) #[] #[], junk, .bool true, .bool false, junk, undef], [], Tr.rebuild (XH La Lb n c m d g h tot hi al i) 14, 14, 2, [], fun _ => false, True, []⟩
theorem eI (La Lb : List Int) (n c m d : Nat) (g h : Option Nat) (tot hi : Int) (al : Bool) (i : Int) (tot0 hi0 : Int) (al0 : Bool) (rd : Option Nat) (hp : sr.pI La n al i) :
    Step Try.prog rd (E La Lb n c m d g h tot0 hi0 al0 0) sr.bodyI (E La Lb n c m d g h tot hi al i) (fun e s => e = .normal ∧ s = R La Lb n c m d g h tot (sr.hi1 (sr.x8 La i)) (!al) (sr.w1 i)) :=
  Step.std sr.pg (GivenOk.nothing _) (n := 200) (f := 43) (σ := []) (o := sr.o1) (n1 := 14) (g := RH La Lb n c m d g h tot (sr.hi1 (sr.x8 La i)) (!al) (sr.w1 i)) (by kernel_rfl) hp (Nat.le_refl _) rfl (by kernel_rfl)
theorem eJ (La Lb : List Int) (n c m d : Nat) (g h : Option Nat) (tot hi : Int) (al : Bool) (i : Int) (tot0 hi0 : Int) (al0 : Bool) (rd : Option Nat) (hp : sr.pJ La n al i) :
    Step Try.prog rd (E La Lb n c m d g h tot0 hi0 al0 0) sr.bodyI (E La Lb n c m d g h tot hi al i) (fun e s => e = .normal ∧ s = R La Lb n c m d g h (sr.tot2 tot hi (sr.x8 La i)) hi (!al) (sr.w1 i)) :=
  Step.std sr.pg (GivenOk.nothing _) (n := 200) (f := 43) (σ := []) (o := sr.o2) (n1 := 14) (g := RH La Lb n c m d g h (sr.tot2 tot hi (sr.x8 La i)) hi (!al) (sr.w1 i)) (by kernel_rfl) hp (Nat.le_refl _) rfl (by kernel_rfl)
theorem rI (La Lb : List Int) (n c m d : Nat) (g h : Option Nat) (tot hi : Int) (al : Bool) (i : Int) (tot0 hi0 : Int) (al0 : Bool) (rd : Option Nat) (hp : sr.pI La n al i) :
    Step Try.prog rd (E La Lb n c m d g h tot0 hi0 al0 0) sr.bodyI (R La Lb n c m d g h tot hi al i) (fun e s => e = .normal ∧ s = R La Lb n c m d g h tot (sr.hi1 (sr.x8 La i)) (!al) (sr.w1 i)) :=
  Step.std sr.pg (GivenOk.nothing _) (n := 200) (f := 43) (σ := []) (o := sr.o1) (n1 := 14) (g := RH La Lb n c m d g h tot (sr.hi1 (sr.x8 La i)) (!al) (sr.w1 i)) (by kernel_rfl) hp (Nat.le_refl _) rfl (by kernel_rfl)
theorem rJ (La Lb : List Int) (n c m d : Nat) (g h : Option Nat) (tot hi : Int) (al : Bool) (i : Int) (tot0 hi0 : Int) (al0 : Bool) (rd : Option Nat) (hp : sr.pJ La n al i) :
    Step Try.prog rd (E La Lb n c m d g h tot0 hi0 al0 0) sr.bodyI (R La Lb n c m d g h tot hi al i) (fun e s => e = .normal ∧ s = R La Lb n c m d g h (sr.tot2 tot hi (sr.x8 La i)) hi (!al) (sr.w1 i)) :=
  Step.std sr.pg (GivenOk.nothing _) (n := 200) (f := 43) (σ := []) (o := sr.o2) (n1 := 14) (g := RH La Lb n c m d g h (sr.tot2 tot hi (sr.x8 La i)) hi (!al) (sr.w1 i)) (by kernel_rfl) hp (Nat.le_refl _) rfl (by kernel_rfl)
theorem xR (La Lb : List Int) (n c m d : Nat) (g h : Option Nat) (tot hi : Int) (al : Bool) (i : Int) (tot0 hi0 : Int) (al0 : Bool) (rd : Option Nat) (hp : True ∧ decide (i < (n : Int)) = false) :
    Step Try.prog rd (E La Lb n c m d g h tot0 hi0 al0 0) sr.bodyI (R La Lb n c m d g h tot hi al i) (fun e s => e = .exit 2 ∧ s = X La Lb n c m d g h tot hi al i) :=
  Step.std sr.pg (GivenOk.nothing _) (n := 200) (f := 43) (σ := []) (o := [some false]) (n1 := 14) (g := XH La Lb n c m d g h tot hi al i) (by kernel_rfl) hp (Nat.le_refl _) rfl (by kernel_rfl)
theorem loopI (La Lb : List Int) (n c m d : Nat) (g h : Option Nat) (tot hi : Int) (al : Bool) (rd : Option Nat) (h0 : 0 < n) (hL : n ≤ La.length) (hn : n ≤ 4611686018427387904) :
    CodeOk Try.prog rd (.loop sr.bodyI) (E La Lb n c m d g h tot hi al 0) (.exit 2) (X La Lb n c m d g h (sr.scan La n 0 tot hi al).1 (sr.scan La n 0 tot hi al).2.1 (sr.scan La n 0 tot hi al).2.2 n) := by
  refine CodeOk.of_step (Step.loop (fun k s => (k = n + 1 ∧ s = E La Lb n c m d g h tot hi al 0) ∨ ∃ (j : Nat) (t' h' : Int) (a' : Bool), 1 ≤ j ∧ j ≤ n ∧ k = n - j ∧ s = R La Lb n c m d g h t' h' a' j ∧ sr.scan La (n - j) j t' h' a' = sr.scan La n 0 tot hi al) ?_ (n + 1) _ (.inl ⟨rfl, rfl⟩))
  rintro k s (⟨rfl, rfl⟩ | ⟨j, t', h', a', h1, h2, rfl, rfl, h3⟩)
  · obtain ⟨z, rfl⟩ : ∃ z, n = z + 1 := ⟨n - 1, by omega⟩
    cases al with
    | false =>
      refine (eI La Lb (z + 1) c m d g h tot hi false ((0 : Nat) : Int) tot hi false rd (sr.pI_ok h0 hL)).mono ?_
      rintro e s ⟨rfl, rfl⟩
      refine .inl ⟨rfl, z + 1 - 1, by omega, .inr ⟨1, tot, sr.hi1 (La.getD 0 0), true, Nat.le_refl _, h0, rfl, ?_, ?_⟩⟩
      · rw [sr.w1_eq h0 hn, sr.x8_eq]; rfl
      · simp only [sr.scan, Nat.add_sub_cancel, Nat.zero_add]
    | true =>
      refine (eJ La Lb (z + 1) c m d g h tot hi true ((0 : Nat) : Int) tot hi true rd (sr.pJ_ok h0 hL)).mono ?_
      rintro e s ⟨rfl, rfl⟩
      refine .inl ⟨rfl, z + 1 - 1, by omega, .inr ⟨1, sr.tot2 tot hi (La.getD 0 0), hi, false, Nat.le_refl _, h0, rfl, ?_, ?_⟩⟩
      · rw [sr.w1_eq h0 hn, sr.x8_eq]; rfl
      · simp only [sr.scan, Nat.add_sub_cancel, Nat.zero_add]
  · by_cases e : j = n
    · subst e
      refine (xR La Lb j c m d g h t' h' a' (j : Int) tot hi al rd ⟨trivial, by rw [decide_eq_false_iff_not]; omega⟩).mono ?_
      rintro e s ⟨rfl, rfl⟩
      refine .inr ⟨(by intro x; cases x), rfl, ?_⟩
      rw [← h3, Nat.sub_self]; rfl
    · have hlt : j < n := by omega
      have e1 : n - j = (n - (j + 1)) + 1 := by omega
      cases a' with
      | false =>
        refine (rI La Lb n c m d g h t' h' false (j : Int) tot hi al rd (sr.pI_ok hlt hL)).mono ?_
        rintro e s ⟨rfl, rfl⟩
        refine .inl ⟨rfl, n - (j + 1), by omega, .inr ⟨j + 1, t', sr.hi1 (La.getD j 0), true, by omega, by omega, rfl, ?_, ?_⟩⟩
        · rw [sr.w1_eq hlt hn, sr.x8_eq]; rfl
        · rw [← h3, e1]; rfl
      | true =>
        refine (rJ La Lb n c m d g h t' h' true (j : Int) tot hi al rd (sr.pJ_ok hlt hL)).mono ?_
        rintro e s ⟨rfl, rfl⟩
        refine .inl ⟨rfl, n - (j + 1), by omega, .inr ⟨j + 1, sr.tot2 t' h' (La.getD j 0), h', false, by omega, by omega, rfl, ?_, ?_⟩⟩
        · rw [sr.w1_eq hlt hn, sr.x8_eq]; rfl
        · rw [← h3, e1]; rfl
end a1
namespace a2
def EH (La Lb : List Int) (n c m d : Nat) (g h : Option Nat) (tot hi : Int) (al : Bool) (i : Int) : Nat → Option Ob := fun i => match i with
  | 0 => some (.cells (.ints .u8 La) 5)
  | 1 => some (.cells (.ints .u8 Lb) 5)
  | 2 => some (.cells (.lit ([.slice (some ⟨0, 0, g⟩) n c, .slice (some ⟨1, 0, h⟩) m d])) 23)
  | 3 => some (.cells (.lit ([.int .u64 tot])) 62)
  | 4 => some (.cells (.lit ([.slice (some ⟨2, 0, none⟩) 2 2])) 22)
  | 5 => some (.cells (.lit ([.pointer (some ⟨3, 0, none⟩)])) 74)
  | 6 => some (.marks)
  | 7 => some (.loop ⟨.ready, none, [.pointer (some ⟨3, 0, none⟩), .func (.func 39) #[] #[.pointer (some ⟨4, 0, none⟩)], .pointer (some ⟨5, 0, none⟩), undef, undef, .func (.func 39) #[] #[.pointer (some ⟨4, 0, none⟩)]] ++ U 10, #[6], (rngAt Try.prog 31 0).2.1, (rngAt Try.prog 31 0).2.2, 6⟩)
  | 8 => some (.cells (.lit ([.func (.yield 7) #[] #[]])) 75)
  | 9 => some (.cells (.lit ([.int .u16 hi])) 27)
  | 10 => some (.cells (.lit ([.bool al])) 4)
  | 11 => some (.cells (.lit ([.func (.func 40) #[] #[.pointer (some ⟨10, 0, none⟩), .pointer (some ⟨9, 0, none⟩)]])) 76)
  | 12 => some (.cells (.lit ([.slice (some ⟨2, 0, none⟩) 2 2])) 22)
  | 13 => some (.marks)
  | 14 => some (.loop ⟨.ready, none, [.func (.yield 7) #[] #[], .pointer (some ⟨4, 0, none⟩), .pointer (some ⟨8, 0, none⟩), .pointer (some ⟨9, 0, none⟩), .pointer (some ⟨10, 0, none⟩), .pointer (some ⟨11, 0, none⟩), undef, undef, .func (.func 40) #[] #[.pointer (some ⟨10, 0, none⟩), .pointer (some ⟨9, 0, none⟩)], .slice (some ⟨2, 0, none⟩) 2 2, .func (.func 43) #[] #[.pointer (some ⟨12, 0, none⟩)]] ++ U 15, #[11], (rngAt Try.prog 39 0).2.1, (rngAt Try.prog 39 0).2.2, 13⟩)
  | _ => none
def E (La Lb : List Int) (n c m d : Nat) (g h : Option Nat) (tot hi : Int) (al : Bool) (i : Int) : St := ⟨[.func (.yield 14) #[] #[], .pointer (some ⟨12, 0, none⟩), undef, undef, .slice (some ⟨0, 0, g⟩) n c, undef, undef, .slice (some ⟨2, 0, none⟩) 2 2, .int .i64 2, .int .i64 0, .bool true, .pointer (some ⟨2, 0, none⟩), .slice (some ⟨0, 0, g⟩) n c, .slice (some ⟨0, 0, g⟩) n c, .int .i64 (n : Int), .int .i64 i] ++ U 9, [], Tr.rebuild (EH La Lb n c m d g h tot hi al i) 15, 15, 3, [], fun _ => false, True, []⟩
def RH (La Lb : List Int) (n c m d : Nat) (g h : Option Nat) (tot hi : Int) (al : Bool) (i : Int) : Nat → Option Ob := fun i => match i with
  | 0 => some (.cells (.ints .u8 La) 5)
  | 1 => some (.cells (.ints .u8 Lb) 5)
  | 2 => some (.cells (.lit ([.slice (some ⟨0, 0, g⟩) n c, .slice (some ⟨1, 0, h⟩) m d])) 23)
  | 3 => some (.cells (.lit ([.int .u64 tot])) 62)
  | 4 => some (.cells (.lit ([.slice (some ⟨2, 0, none⟩) 2 2])) 22)
  | 5 => some (.cells (.lit ([.pointer (some ⟨3, 0, none⟩)])) 74)
  | 6 => some (.marks)
  | 7 => some (.loop ⟨.ready, none, [.pointer (some ⟨3, 0, none⟩), .func (.func 39) #[] #[.pointer (some ⟨4, 0, none⟩)], .pointer (some ⟨5, 0, none⟩), undef, undef, .func (.func 39) #[] #[.pointer (some ⟨4, 0, none⟩)]] ++ U 10, #[6], (rngAt Try.prog 31 0).2.1, (rngAt Try.prog 31 0).2.2, 6⟩)
  | 8 => some (.cells (.lit ([.func (.yield 7) #[] #[]])) 75)
  | 9 => some (.cells (.lit ([.int .u16 hi])) 27)
  | 10 => some (.cells (.lit ([.bool al])) 4)
  | 11 => some (.cells (.lit ([.func (.func 40) #[] #[.pointer (some ⟨10, 0, none⟩), .pointer (some ⟨9, 0, none⟩)]])) 76)
  | 12 => some (.cells (.lit ([.slice (some ⟨2, 0, none⟩) 2 2])) 22)
  | 13 => some (.marks)
  | 14 => some (.loop ⟨.ready, none, [.func (.yield 7) #[] #[], .pointer (some ⟨4, 0, none⟩), .pointer (some ⟨8, 0, none⟩), .pointer (some ⟨9, 0, none⟩), .pointer (some ⟨10, 0, none⟩), .pointer (some ⟨11, 0, none⟩), undef, undef, .func (.func 40) #[] #[.pointer (some ⟨10, 0, none⟩), .pointer (some ⟨9, 0, none⟩)], .slice (some ⟨2, 0, none⟩) 2 2, .func (.func 43) #[] #[.pointer (some ⟨12, 0, none⟩)]] ++ U 15, #[11], (rngAt Try.prog 39 0).2.1, (rngAt Try.prog 39 0).2.2, 13⟩)
  | _ => none
def R (La Lb : List Int) (n c m d : Nat) (g h : Option Nat) (tot hi : Int) (al : Bool) (i : Int) : St := ⟨[.func (.yield 14) #[] #[], .pointer (some ⟨12, 0, none⟩), undef, undef, .slice (some ⟨0, 0, g⟩) n c, undef, junk, .slice (some ⟨2, 0, none⟩) 2 2, .int .i64 2, .int .i64 0, .bool true, .pointer (some ⟨2, 0, none⟩), .slice (some ⟨0, 0, g⟩) n c, .slice (some ⟨0, 0, g⟩) n c, .int .i64 (n : Int), .int .i64 i, .bool true, junk, junk, .func (.yield 14) #[] #[], junk, .bool true, .bool false, junk, undef], [], Tr.rebuild (RH La Lb n c m d g h tot hi al i) 15, 15, 3, [], fun _ => false, True, []⟩
def XH (La Lb : List Int) (n c m d : Nat) (g h : Option Nat) (tot hi : Int) (al : Bool) (i : Int) : Nat → Option Ob := fun i => match i with
  | 0 => some (.cells (.ints .u8 La) 5)
  | 1 => some (.cells (.ints .u8 Lb) 5)
  | 2 => some (.cells (.lit ([.slice (some ⟨0, 0, g⟩) n c, .slice (some ⟨1, 0, h⟩) m d])) 23)
  | 3 => some (.cells (.lit ([.int .u64 tot])) 62)
  | 4 => some (.cells (.lit ([.slice (some ⟨2, 0, none⟩) 2 2])) 22)
  | 5 => some (.cells (.lit ([.pointer (some ⟨3, 0, none⟩)])) 74)
  | 6 => some (.marks)
  | 7 => some (.loop ⟨.ready, none, [.pointer (some ⟨3, 0, none⟩), .func (.func 39) #[] #[.pointer (some ⟨4, 0, none⟩)], .pointer (some ⟨5, 0, none⟩), undef, undef, .func (.func 39) #[] #[.pointer (some ⟨4, 0, none⟩)]] ++ U 10, #[6], (rngAt Try.prog 31 0).2.1, (rngAt Try.prog 31 0).2.2, 6⟩)
  | 8 => some (.cells (.lit ([.func (.yield 7) #[] #[]])) 75)
  | 9 => some (.cells (.lit ([.int .u16 hi])) 27)
  | 10 => some (.cells (.lit ([.bool al])) 4)
  | 11 => some (.cells (.lit ([.func (.func 40) #[] #[.pointer (some ⟨10, 0, none⟩), .pointer (some ⟨9, 0, none⟩)]])) 76)
  | 12 => some (.cells (.lit ([.slice (some ⟨2, 0, none⟩) 2 2])) 22)
  | 13 => some (.marks)
  | 14 => some (.loop ⟨.ready, none, [.func (.yield 7) #[] #[], .pointer (some ⟨4, 0, none⟩), .pointer (some ⟨8, 0, none⟩), .pointer (some ⟨9, 0, none⟩), .pointer (some ⟨10, 0, none⟩), .pointer (some ⟨11, 0, none⟩), undef, undef, .func (.func 40) #[] #[.pointer (some ⟨10, 0, none⟩), .pointer (some ⟨9, 0, none⟩)], .slice (some ⟨2, 0, none⟩) 2 2, .func (.func 43) #[] #[.pointer (some ⟨12, 0, none⟩)]] ++ U 15, #[11], (rngAt Try.prog 39 0).2.1, (rngAt Try.prog 39 0).2.2, 13⟩)
  | _ => none
def X (La Lb : List Int) (n c m d : Nat) (g h : Option Nat) (tot hi : Int) (al : Bool) (i : Int) : St := ⟨[.func (.yield 14) #[] #[], .pointer (some ⟨12, 0, none⟩), undef, undef, .slice (some ⟨0, 0, g⟩) n c, undef, junk, .slice (some ⟨2, 0, none⟩) 2 2, .int .i64 2, .int .i64 0, .bool true, .pointer (some ⟨2, 0, none⟩), .slice (some ⟨0, 0, g⟩) n c, .slice (some ⟨0, 0, g⟩) n c, .int .i64 (n : Int), .int .i64 i, .bool false, junk, junk, .func (.yield 14) #[] #[], junk, .bool true, .bool false, junk, undef], [], Tr.rebuild (XH La Lb n c m d g h tot hi al i) 15, 15, 3, [], fun _ => false, True, []⟩
theorem eI (La Lb : List Int) (n c m d : Nat) (g h : Option Nat) (tot hi : Int) (al : Bool) (i : Int) (tot0 hi0 : Int) (al0 : Bool) (rd : Option Nat) (hp : sr.pI La n al i) :
    Step Try.prog rd (E La Lb n c m d g h tot0 hi0 al0 0) sr.bodyI (E La Lb n c m d g h tot hi al i) (fun e s => e = .normal ∧ s = R La Lb n c m d g h tot (sr.hi1 (sr.x8 La i)) (!al) (sr.w1 i)) :=
  Step.std sr.pg (GivenOk.nothing _) (n := 200) (f := 43) (σ := []) (o := sr.o1) (n1 := 15) (g := RH La Lb n c m d g h tot (sr.hi1 (sr.x8 La i)) (!al) (sr.w1 i)) (by kernel_rfl) hp (Nat.le_refl _) rfl (by kernel_rfl)
theorem eJ (La Lb : List Int) (n c m d : Nat) (g h : Option Nat) (tot hi : Int) (al : Bool) (i : Int) (tot0 hi0 : Int) (al0 : Bool) (rd : Option Nat) (hp : sr.pJ La n al i) :
    Step Try.prog rd (E La Lb n c m d g h tot0 hi0 al0 0) sr.bodyI (E La Lb n c m d g h tot hi al i) (fun e s => e = .normal ∧ s = R La Lb n c m d g h (sr.tot2 tot hi (sr.x8 La i)) hi (!al) (sr.w1 i)) :=
  Step.std sr.pg (GivenOk.nothing _) (n := 200) (f := 43) (σ := []) (o := sr.o2) (n1 := 15) (g := RH La Lb n c m d g h (sr.tot2 tot hi (sr.x8 La i)) hi (!al) (sr.w1 i)) (by kernel_rfl) hp (Nat.le_refl _) rfl (by kernel_rfl)
theorem rI (La Lb : List Int) (n c m d : Nat) (g h : Option Nat) (tot hi : Int) (al : Bool) (i : Int) (tot0 hi0 : Int) (al0 : Bool) (rd : Option Nat) (hp : sr.pI La n al i) :
    Step Try.prog rd (E La Lb n c m d g h tot0 hi0 al0 0) sr.bodyI (R La Lb n c m d g h tot hi al i) (fun e s => e = .normal ∧ s = R La Lb n c m d g h tot (sr.hi1 (sr.x8 La i)) (!al) (sr.w1 i)) :=
  Step.std sr.pg (GivenOk.nothing _) (n := 200) (f := 43) (σ := []) (o := sr.o1) (n1 := 15) (g := RH La Lb n c m d g h tot (sr.hi1 (sr.x8 La i)) (!al) (sr.w1 i)) (by kernel_rfl) hp (Nat.le_refl _) rfl (by kernel_rfl)
theorem rJ (La Lb : List Int) (n c m d : Nat) (g h : Option Nat) (tot hi : Int) (al : Bool) (i : Int) (tot0 hi0 : Int) (al0 : Bool) (rd : Option Nat) (hp : sr.pJ La n al i) :
    Step Try.prog rd (E La Lb n c m d g h tot0 hi0 al0 0) sr.bodyI (R La Lb n c m d g h tot hi al i) (fun e s => e = .normal ∧ s = R La Lb n c m d g h (sr.tot2 tot hi (sr.x8 La i)) hi (!al) (sr.w1 i)) :=
  Step.std sr.pg (GivenOk.nothing _) (n := 200) (f := 43) (σ := []) (o := sr.o2) (n1 := 15) (g := RH La Lb n c m d g h (sr.tot2 tot hi (sr.x8 La i)) hi (!al) (sr.w1 i)) (by kernel_rfl) hp (Nat.le_refl _) rfl (by kernel_rfl)
theorem xR (La Lb : List Int) (n c m d : Nat) (g h : Option Nat) (tot hi : Int) (al : Bool) (i : Int) (tot0 hi0 : Int) (al0 : Bool) (rd : Option Nat) (hp : True ∧ decide (i < (n : Int)) = false) :
    Step Try.prog rd (E La Lb n c m d g h tot0 hi0 al0 0) sr.bodyI (R La Lb n c m d g h tot hi al i) (fun e s => e = .exit 2 ∧ s = X La Lb n c m d g h tot hi al i) :=
  Step.std sr.pg (GivenOk.nothing _) (n := 200) (f := 43) (σ := []) (o := [some false]) (n1 := 15) (g := XH La Lb n c m d g h tot hi al i) (by kernel_rfl) hp (Nat.le_refl _) rfl (by kernel_rfl)
theorem loopI (La Lb : List Int) (n c m d : Nat) (g h : Option Nat) (tot hi : Int) (al : Bool) (rd : Option Nat) (h0 : 0 < n) (hL : n ≤ La.length) (hn : n ≤ 4611686018427387904) :
    CodeOk Try.prog rd (.loop sr.bodyI) (E La Lb n c m d g h tot hi al 0) (.exit 2) (X La Lb n c m d g h (sr.scan La n 0 tot hi al).1 (sr.scan La n 0 tot hi al).2.1 (sr.scan La n 0 tot hi al).2.2 n) := by
  refine CodeOk.of_step (Step.loop (fun k s => (k = n + 1 ∧ s = E La Lb n c m d g h tot hi al 0) ∨ ∃ (j : Nat) (t' h' : Int) (a' : Bool), 1 ≤ j ∧ j ≤ n ∧ k = n - j ∧ s = R La Lb n c m d g h t' h' a' j ∧ sr.scan La (n - j) j t' h' a' = sr.scan La n 0 tot hi al) ?_ (n + 1) _ (.inl ⟨rfl, rfl⟩))
  rintro k s (⟨rfl, rfl⟩ | ⟨j, t', h', a', h1, h2, rfl, rfl, h3⟩)
  · obtain ⟨z, rfl⟩ : ∃ z, n = z + 1 := ⟨n - 1, by omega⟩
    cases al with
    | false =>
      refine (eI La Lb (z + 1) c m d g h tot hi false ((0 : Nat) : Int) tot hi false rd (sr.pI_ok h0 hL)).mono ?_
      rintro e s ⟨rfl, rfl⟩
      refine .inl ⟨rfl, z + 1 - 1, by omega, .inr ⟨1, tot, sr.hi1 (La.getD 0 0), true, Nat.le_refl _, h0, rfl, ?_, ?_⟩⟩
      · rw [sr.w1_eq h0 hn, sr.x8_eq]; rfl
      · simp only [sr.scan, Nat.add_sub_cancel, Nat.zero_add]
    | true =>
      refine (eJ La Lb (z + 1) c m d g h tot hi true ((0 : Nat) : Int) tot hi true rd (sr.pJ_ok h0 hL)).mono ?_
      rintro e s ⟨rfl, rfl⟩
      refine .inl ⟨rfl, z + 1 - 1, by omega, .inr ⟨1, sr.tot2 tot hi (La.getD 0 0), hi, false, Nat.le_refl _, h0, rfl, ?_, ?_⟩⟩
      · rw [sr.w1_eq h0 hn, sr.x8_eq]; rfl
      · simp only [sr.scan, Nat.add_sub_cancel, Nat.zero_add]
  · by_cases e : j = n
    · subst e
      refine (xR La Lb j c m d g h t' h' a' (j : Int) tot hi al rd ⟨trivial, by rw [decide_eq_false_iff_not]; omega⟩).mono ?_
      rintro e s ⟨rfl, rfl⟩
      refine .inr ⟨(by intro x; cases x), rfl, ?_⟩
      rw [← h3, Nat.sub_self]; rfl
    · have hlt : j < n := by omega
      have e1 : n - j = (n - (j + 1)) + 1 := by omega
      cases a' with
      | false =>
        refine (rI La Lb n c m d g h t' h' false (j : Int) tot hi al rd (sr.pI_ok hlt hL)).mono ?_
        rintro e s ⟨rfl, rfl⟩
        refine .inl ⟨rfl, n - (j + 1), by omega, .inr ⟨j + 1, t', sr.hi1 (La.getD j 0), true, by omega, by omega, rfl, ?_, ?_⟩⟩
        · rw [sr.w1_eq hlt hn, sr.x8_eq]; rfl
        · rw [← h3, e1]; rfl
      | true =>
        refine (rJ La Lb n c m d g h t' h' true (j : Int) tot hi al rd (sr.pJ_ok hlt hL)).mono ?_
        rintro e s ⟨rfl, rfl⟩
        refine .inl ⟨rfl, n - (j + 1), by omega, .inr ⟨j + 1, sr.tot2 t' h' (La.getD j 0), h', false, by omega, by omega, rfl, ?_, ?_⟩⟩
        · rw [sr.w1_eq hlt hn, sr.x8_eq]; rfl
        · rw [← h3, e1]; rfl
end a2
namespace a3
def EH (La Lb : List Int) (n c m d : Nat) (g h : Option Nat) (tot hi : Int) (al : Bool) (i : Int) : Nat → Option Ob := fun i => match i with
  | 0 => some (.cells (.ints .u8 La) 5)
  | 2 => some (.cells (.lit ([.slice (some ⟨0, 0, g⟩) n c, .slice (some ⟨1, 0, h⟩) 0 d])) 23)
  | 3 => some (.cells (.lit ([.int .u64 tot])) 62)
  | 4 => some (.cells (.lit ([.slice (some ⟨2, 0, none⟩) 2 2])) 22)
  | 5 => some (.cells (.lit ([.pointer (some ⟨3, 0, none⟩)])) 74)
  | 6 => some (.marks)
  | 7 => some (.loop ⟨.ready, none, [.pointer (some ⟨3, 0, none⟩), .func (.func 39) #[] #[.pointer (some ⟨4, 0, none⟩)], .pointer (some ⟨5, 0, none⟩), undef, undef, .func (.func 39) #[] #[.pointer (some ⟨4, 0, none⟩)]] ++ U 10, #[6], (rngAt Try.prog 31 0).2.1, (rngAt Try.prog 31 0).2.2, 6⟩)
  | 8 => some (.cells (.lit ([.func (.yield 7) #[] #[]])) 75)
  | 9 => some (.cells (.lit ([.int .u16 hi])) 27)
  | 10 => some (.cells (.lit ([.bool al])) 4)
  | 11 => some (.cells (.lit ([.func (.func 40) #[] #[.pointer (some ⟨10, 0, none⟩), .pointer (some ⟨9, 0, none⟩)]])) 76)
  | 12 => some (.cells (.lit ([.slice (some ⟨2, 0, none⟩) 2 2])) 22)
  | 13 => some (.marks)
  | 14 => some (.loop ⟨.ready, none, [.func (.yield 7) #[] #[], .pointer (some ⟨4, 0, none⟩), .pointer (some ⟨8, 0, none⟩), .pointer (some ⟨9, 0, none⟩), .pointer (some ⟨10, 0, none⟩), .pointer (some ⟨11, 0, none⟩), undef, undef, .func (.func 40) #[] #[.pointer (some ⟨10, 0, none⟩), .pointer (some ⟨9, 0, none⟩)], .slice (some ⟨2, 0, none⟩) 2 2, .func (.func 43) #[] #[.pointer (some ⟨12, 0, none⟩)]] ++ U 15, #[11], (rngAt Try.prog 39 0).2.1, (rngAt Try.prog 39 0).2.2, 13⟩)
  | _ => none
def E (La Lb : List Int) (n c m d : Nat) (g h : Option Nat) (tot hi : Int) (al : Bool) (i : Int) : St := ⟨[.func (.yield 14) #[] #[], .pointer (some ⟨12, 0, none⟩), undef, undef, .slice (some ⟨0, 0, g⟩) n c, undef, undef, .slice (some ⟨2, 0, none⟩) 2 2, .int .i64 2, .int .i64 0, .bool true, .pointer (some ⟨2, 0, none⟩), .slice (some ⟨0, 0, g⟩) n c, .slice (some ⟨0, 0, g⟩) n c, .int .i64 (n : Int), .int .i64 i] ++ U 9, [], Tr.rebuild (EH La Lb n c m d g h tot hi al i) 15, 15, 3, [], fun _ => false, True, []⟩
def RH (La Lb : List Int) (n c m d : Nat) (g h : Option Nat) (tot hi : Int) (al : Bool) (i : Int) : Nat → Option Ob := fun i => match i with
  | 0 => some (.cells (.ints .u8 La) 5)
  | 2 => some (.cells (.lit ([.slice (some ⟨0, 0, g⟩) n c, .slice (some ⟨1, 0, h⟩) 0 d])) 23)
  | 3 => some (.cells (.lit ([.int .u64 tot])) 62)
  | 4 => some (.cells (.lit ([.slice (some ⟨2, 0, none⟩) 2 2])) 22)
  | 5 => some (.cells (.lit ([.pointer (some ⟨3, 0, none⟩)])) 74)
  | 6 => some (.marks)
  | 7 => some (.loop ⟨.ready, none, [.pointer (some ⟨3, 0, none⟩), .func (.func 39) #[] #[.pointer (some ⟨4, 0, none⟩)], .pointer (some ⟨5, 0, none⟩), undef, undef, .func (.func 39) #[] #[.pointer (some ⟨4, 0, none⟩)]] ++ U 10, #[6], (rngAt Try.prog 31 0).2.1, (rngAt Try.prog 31 0).2.2, 6⟩)
  | 8 => some (.cells (.lit ([.func (.yield 7) #[] #[]])) 75)
  | 9 => some (.cells (.lit ([.int .u16 hi])) 27)
  | 10 => some (.cells (.lit ([.bool al])) 4)
  | 11 => some (.cells (.lit ([.func (.func 40) #[] #[.pointer (some ⟨10, 0, none⟩), .pointer (some ⟨9, 0, none⟩)]])) 76)
  | 12 => some (.cells (.lit ([.slice (some ⟨2, 0, none⟩) 2 2])) 22)
  | 13 => some (.marks)
  | 14 => some (.loop ⟨.ready, none, [.func (.yield 7) #[] #[], .pointer (some ⟨4, 0, none⟩), .pointer (some ⟨8, 0, none⟩), .pointer (some ⟨9, 0, none⟩), .pointer (some ⟨10, 0, none⟩), .pointer (some ⟨11, 0, none⟩), undef, undef, .func (.func 40) #[] #[.pointer (some ⟨10, 0, none⟩), .pointer (some ⟨9, 0, none⟩)], .slice (some ⟨2, 0, none⟩) 2 2, .func (.func 43) #[] #[.pointer (some ⟨12, 0, none⟩)]] ++ U 15, #[11], (rngAt Try.prog 39 0).2.1, (rngAt Try.prog 39 0).2.2, 13⟩)
  | _ => none
def R (La Lb : List Int) (n c m d : Nat) (g h : Option Nat) (tot hi : Int) (al : Bool) (i : Int) : St := ⟨[.func (.yield 14) #[] #[], .pointer (some ⟨12, 0, none⟩), undef, undef, .slice (some ⟨0, 0, g⟩) n c, undef, junk, .slice (some ⟨2, 0, none⟩) 2 2, .int .i64 2, .int .i64 0, .bool true, .pointer (some ⟨2, 0, none⟩), .slice (some ⟨0, 0, g⟩) n c, .slice (some ⟨0, 0, g⟩) n c, .int .i64 (n : Int), .int .i64 i, .bool true, junk, junk, .func (.yield 14) #[] #[], junk, .bool true, .bool false, junk, undef], [], Tr.rebuild (RH La Lb n c m d g h tot hi al i) 15, 15, 3, [], fun _ => false, True, []⟩
def XH (La Lb : List Int) (n c m d : Nat) (g h : Option Nat) (tot hi : Int) (al : Bool) (i : Int) : Nat → Option Ob := fun i => match i with
  | 0 => some (.cells (.ints .u8 La) 5)
  | 2 => some (.cells (.lit ([.slice (some ⟨0, 0, g⟩) n c, .slice (some ⟨1, 0, h⟩) 0 d])) 23)
  | 3 => some (.cells (.lit ([.int .u64 tot])) 62)
  | 4 => some (.cells (.lit ([.slice (some ⟨2, 0, none⟩) 2 2])) 22)
  | 5 => some (.cells (.lit ([.pointer (some ⟨3, 0, none⟩)])) 74)
  | 6 => some (.marks)
  | 7 => some (.loop ⟨.ready, none, [.pointer (some ⟨3, 0, none⟩), .func (.func 39) #[] #[.pointer (some ⟨4, 0, none⟩)], .pointer (some ⟨5, 0, none⟩), undef, undef, .func (.func 39) #[] #[.pointer (some ⟨4, 0, none⟩)]] ++ U 10, #[6], (rngAt Try.prog 31 0).2.1, (rngAt Try.prog 31 0).2.2, 6⟩)
  | 8 => some (.cells (.lit ([.func (.yield 7) #[] #[]])) 75)
  | 9 => some (.cells (.lit ([.int .u16 hi])) 27)
  | 10 => some (.cells (.lit ([.bool al])) 4)
  | 11 => some (.cells (.lit ([.func (.func 40) #[] #[.pointer (some ⟨10, 0, none⟩), .pointer (some ⟨9, 0, none⟩)]])) 76)
  | 12 => some (.cells (.lit ([.slice (some ⟨2, 0, none⟩) 2 2])) 22)
  | 13 => some (.marks)
  | 14 => some (.loop ⟨.ready, none, [.func (.yield 7) #[] #[], .pointer (some ⟨4, 0, none⟩), .pointer (some ⟨8, 0, none⟩), .pointer (some ⟨9, 0, none⟩), .pointer (some ⟨10, 0, none⟩), .pointer (some ⟨11, 0, none⟩), undef, undef, .func (.func 40) #[] #[.pointer (some ⟨10, 0, none⟩), .pointer (some ⟨9, 0, none⟩)], .slice (some ⟨2, 0, none⟩) 2 2, .func (.func 43) #[] #[.pointer (some ⟨12, 0, none⟩)]] ++ U 15, #[11], (rngAt Try.prog 39 0).2.1, (rngAt Try.prog 39 0).2.2, 13⟩)
  | _ => none
def X (La Lb : List Int) (n c m d : Nat) (g h : Option Nat) (tot hi : Int) (al : Bool) (i : Int) : St := ⟨[.func (.yield 14) #[] #[], .pointer (some ⟨12, 0, none⟩), undef, undef, .slice (some ⟨0, 0, g⟩) n c, undef, junk, .slice (some ⟨2, 0, none⟩) 2 2, .int .i64 2, .int .i64 0, .bool true, .pointer (some ⟨2, 0, none⟩), .slice (some ⟨0, 0, g⟩) n c, .slice (some ⟨0, 0, g⟩) n c, .int .i64 (n : Int), .int .i64 i, .bool false, junk, junk, .func (.yield 14) #[] #[], junk, .bool true, .bool false, junk, undef], [], Tr.rebuild (XH La Lb n c m d g h tot hi al i) 15, 15, 3, [], fun _ => false, True, []⟩
theorem eI (La Lb : List Int) (n c m d : Nat) (g h : Option Nat) (tot hi : Int) (al : Bool) (i : Int) (tot0 hi0 : Int) (al0 : Bool) (rd : Option Nat) (hp : sr.pI La n al i) :
    Step Try.prog rd (E La Lb n c m d g h tot0 hi0 al0 0) sr.bodyI (E La Lb n c m d g h tot hi al i) (fun e s => e = .normal ∧ s = R La Lb n c m d g h tot (sr.hi1 (sr.x8 La i)) (!al) (sr.w1 i)) :=
  Step.std sr.pg (GivenOk.nothing _) (n := 200) (f := 43) (σ := []) (o := sr.o1) (n1 := 15) (g := RH La Lb n c m d g h tot (sr.hi1 (sr.x8 La i)) (!al) (sr.w1 i)) (by kernel_rfl) hp (Nat.le_refl _) rfl (by kernel_rfl)
theorem eJ (La Lb : List Int) (n c m d : Nat) (g h : Option Nat) (tot hi : Int) (al : Bool) (i : Int) (tot0 hi0 : Int) (al0 : Bool) (rd : Option Nat) (hp : sr.pJ La n al i) :
    Step Try.prog rd (E La Lb n c m d g h tot0 hi0 al0 0) sr.bodyI (E La Lb n c m d g h tot hi al i) (fun e s => e = .normal ∧ s = R La Lb n c m d g h (sr.tot2 tot hi (sr.x8 La i)) hi (!al) (sr.w1 i)) :=
  Step.std sr.pg (GivenOk.nothing _) (n := 200) (f := 43) (σ := []) (o := sr.o2) (n1 := 15) (g := RH La Lb n c m d g h (sr.tot2 tot hi (sr.x8 La i)) hi (!al) (sr.w1 i)) (by kernel_rfl) hp (Nat.le_refl _) rfl (by kernel_rfl)
theorem rI (La Lb : List Int) (n c m d : Nat) (g h : Option Nat) (tot hi : Int) (al : Bool) (i : Int) (tot0 hi0 : Int) (al0 : Bool) (rd : Option Nat) (hp : sr.pI La n al i) :
    Step Try.prog rd (E La Lb n c m d g h tot0 hi0 al0 0) sr.bodyI (R La Lb n c m d g h tot hi al i) (fun e s => e = .normal ∧ s = R La Lb n c m d g h tot (sr.hi1 (sr.x8 La i)) (!al) (sr.w1 i)) :=
  Step.std sr.pg (GivenOk.nothing _) (n := 200) (f := 43) (σ := []) (o := sr.o1) (n1 := 15) (g := RH La Lb n c m d g h tot (sr.hi1 (sr.x8 La i)) (!al) (sr.w1 i)) (by kernel_rfl) hp (Nat.le_refl _) rfl (by kernel_rfl)
theorem rJ (La Lb : List Int) (n c m d : Nat) (g h : Option Nat) (tot hi : Int) (al : Bool) (i : Int) (tot0 hi0 : Int) (al0 : Bool) (rd : Option Nat) (hp : sr.pJ La n al i) :
    Step Try.prog rd (E La Lb n c m d g h tot0 hi0 al0 0) sr.bodyI (R La Lb n c m d g h tot hi al i) (fun e s => e = .normal ∧ s = R La Lb n c m d g h (sr.tot2 tot hi (sr.x8 La i)) hi (!al) (sr.w1 i)) :=
  Step.std sr.pg (GivenOk.nothing _) (n := 200) (f := 43) (σ := []) (o := sr.o2) (n1 := 15) (g := RH La Lb n c m d g h (sr.tot2 tot hi (sr.x8 La i)) hi (!al) (sr.w1 i)) (by kernel_rfl) hp (Nat.le_refl _) rfl (by kernel_rfl)
theorem xR (La Lb : List Int) (n c m d : Nat) (g h : Option Nat) (tot hi : Int) (al : Bool) (i : Int) (tot0 hi0 : Int) (al0 : Bool) (rd : Option Nat) (hp : True ∧ decide (i < (n : Int)) = false) :
    Step Try.prog rd (E La Lb n c m d g h tot0 hi0 al0 0) sr.bodyI (R La Lb n c m d g h tot hi al i) (fun e s => e = .exit 2 ∧ s = X La Lb n c m d g h tot hi al i) :=
  Step.std sr.pg (GivenOk.nothing _) (n := 200) (f := 43) (σ := []) (o := [some false]) (n1 := 15) (g := XH La Lb n c m d g h tot hi al i) (by kernel_rfl) hp (Nat.le_refl _) rfl (by kernel_rfl)
theorem loopI (La Lb : List Int) (n c m d : Nat) (g h : Option Nat) (tot hi : Int) (al : Bool) (rd : Option Nat) (h0 : 0 < n) (hL : n ≤ La.length) (hn : n ≤ 4611686018427387904) :
    CodeOk Try.prog rd (.loop sr.bodyI) (E La Lb n c m d g h tot hi al 0) (.exit 2) (X La Lb n c m d g h (sr.scan La n 0 tot hi al).1 (sr.scan La n 0 tot hi al).2.1 (sr.scan La n 0 tot hi al).2.2 n) := by
  refine CodeOk.of_step (Step.loop (fun k s => (k = n + 1 ∧ s = E La Lb n c m d g h tot hi al 0) ∨ ∃ (j : Nat) (t' h' : Int) (a' : Bool), 1 ≤ j ∧ j ≤ n ∧ k = n - j ∧ s = R La Lb n c m d g h t' h' a' j ∧ sr.scan La (n - j) j t' h' a' = sr.scan La n 0 tot hi al) ?_ (n + 1) _ (.inl ⟨rfl, rfl⟩))
  rintro k s (⟨rfl, rfl⟩ | ⟨j, t', h', a', h1, h2, rfl, rfl, h3⟩)
  · obtain ⟨z, rfl⟩ : ∃ z, n = z + 1 := ⟨n - 1, by omega⟩
    cases al with
    | false =>
      refine (eI La Lb (z + 1) c m d g h tot hi false ((0 : Nat) : Int) tot hi false rd (sr.pI_ok h0 hL)).mono ?_
      rintro e s ⟨rfl, rfl⟩
      refine .inl ⟨rfl, z + 1 - 1, by omega, .inr ⟨1, tot, sr.hi1 (La.getD 0 0), true, Nat.le_refl _, h0, rfl, ?_, ?_⟩⟩
      · rw [sr.w1_eq h0 hn, sr.x8_eq]; rfl
      · simp only [sr.scan, Nat.add_sub_cancel, Nat.zero_add]
    | true =>
      refine (eJ La Lb (z + 1) c m d g h tot hi true ((0 : Nat) : Int) tot hi true rd (sr.pJ_ok h0 hL)).mono ?_
      rintro e s ⟨rfl, rfl⟩
      refine .inl ⟨rfl, z + 1 - 1, by omega, .inr ⟨1, sr.tot2 tot hi (La.getD 0 0), hi, false, Nat.le_refl _, h0, rfl, ?_, ?_⟩⟩
      · rw [sr.w1_eq h0 hn, sr.x8_eq]; rfl
      · simp only [sr.scan, Nat.add_sub_cancel, Nat.zero_add]
  · by_cases e : j = n
    · subst e
      refine (xR La Lb j c m d g h t' h' a' (j : Int) tot hi al rd ⟨trivial, by rw [decide_eq_false_iff_not]; omega⟩).mono ?_
      rintro e s ⟨rfl, rfl⟩
      refine .inr ⟨(by intro x; cases x), rfl, ?_⟩
      rw [← h3, Nat.sub_self]; rfl
    · have hlt : j < n := by omega
      have e1 : n - j = (n - (j + 1)) + 1 := by omega
      cases a' with
      | false =>
        refine (rI La Lb n c m d g h t' h' false (j : Int) tot hi al rd (sr.pI_ok hlt hL)).mono ?_
        rintro e s ⟨rfl, rfl⟩
        refine .inl ⟨rfl, n - (j + 1), by omega, .inr ⟨j + 1, t', sr.hi1 (La.getD j 0), true, by omega, by omega, rfl, ?_, ?_⟩⟩
        · rw [sr.w1_eq hlt hn, sr.x8_eq]; rfl
        · rw [← h3, e1]; rfl
      | true =>
        refine (rJ La Lb n c m d g h t' h' true (j : Int) tot hi al rd (sr.pJ_ok hlt hL)).mono ?_
        rintro e s ⟨rfl, rfl⟩
        refine .inl ⟨rfl, n - (j + 1), by omega, .inr ⟨j + 1, sr.tot2 t' h' (La.getD j 0), h', false, by omega, by omega, rfl, ?_, ?_⟩⟩
        · rw [sr.w1_eq hlt hn, sr.x8_eq]; rfl
        · rw [← h3, e1]; rfl
end a3
end
end st
end Go.Proofs.Yteknepfcbpoooab
namespace Go.Proofs.Yteknepfcbpoooab
open Go.ChangeShapes Go.WideShapes Go.ChangeAt Go.RowKit Go.Cln
namespace st
set_option linter.unusedVariables false
noncomputable section
namespace b1
def EH (La Lb : List Int) (n c m d : Nat) (g h : Option Nat) (tot hi : Int) (al : Bool) (i : Int) : Nat → Option Ob := fun i => match i with
  | 0 => some (.cells (.ints .u8 Lb) 5)
  | 1 => some (.cells (.lit ([.slice none 0 0, .slice (some ⟨0, 0, h⟩) m d])) 23)
  | 2 => some (.cells (.lit ([.int .u64 tot])) 62)
  | 3 => some (.cells (.lit ([.slice (some ⟨1, 0, none⟩) 2 2])) 22)
  | 4 => some (.cells (.lit ([.pointer (some ⟨2, 0, none⟩)])) 74)
  | 5 => some (.marks)
  | 6 => some (.loop ⟨.ready, none, [.pointer (some ⟨2, 0, none⟩), .func (.func 39) #[] #[.pointer (some ⟨3, 0, none⟩)], .pointer (some ⟨4, 0, none⟩), undef, undef, .func (.func 39) #[] #[.pointer (some ⟨3, 0, none⟩)]] ++ U 10, #[6], (rngAt Try.prog 31 0).2.1, (rngAt Try.prog 31 0).2.2, 5⟩)
  | 7 => some (.cells (.lit ([.func (.yield 6) #[] #[]])) 75)
  | 8 => some (.cells (.lit ([.int .u16 hi])) 27)
  | 9 => some (.cells (.lit ([.bool al])) 4)
  | 10 => some (.cells (.lit ([.func (.func 40) #[] #[.pointer (some ⟨9, 0, none⟩), .pointer (some ⟨8, 0, none⟩)]])) 76)
  | 11 => some (.cells (.lit ([.slice (some ⟨1, 0, none⟩) 2 2])) 22)
  | 12 => some (.marks)
  | 13 => some (.loop ⟨.ready, none, [.func (.yield 6) #[] #[], .pointer (some ⟨3, 0, none⟩), .pointer (some ⟨7, 0, none⟩), .pointer (some ⟨8, 0, none⟩), .pointer (some ⟨9, 0, none⟩), .pointer (some ⟨10, 0, none⟩), undef, undef, .func (.func 40) #[] #[.pointer (some ⟨9, 0, none⟩), .pointer (some ⟨8, 0, none⟩)], .slice (some ⟨1, 0, none⟩) 2 2, .func (.func 43) #[] #[.pointer (some ⟨11, 0, none⟩)]] ++ U 15, #[11], (rngAt Try.prog 39 0).2.1, (rngAt Try.prog 39 0).2.2, 12⟩)
  | _ => none
def E (La Lb : List Int) (n c m d : Nat) (g h : Option Nat) (tot hi : Int) (al : Bool) (i : Int) : St := ⟨[.func (.yield 13) #[] #[], .pointer (some ⟨11, 0, none⟩), undef, undef, .slice (some ⟨0, 0, h⟩) m d, undef, undef, .slice (some ⟨1, 0, none⟩) 2 2, .int .i64 2, .int .i64 1, .bool true, .pointer (some ⟨1, 1, none⟩), .slice (some ⟨0, 0, h⟩) m d, .slice (some ⟨0, 0, h⟩) m d, .int .i64 (m : Int), .int .i64 i, .bool false] ++ U 7 ++ [.int .i64 1], [], Tr.rebuild (EH La Lb n c m d g h tot hi al i) 14, 14, 2, [], fun _ => false, True, []⟩
def RH (La Lb : List Int) (n c m d : Nat) (g h : Option Nat) (tot hi : Int) (al : Bool) (i : Int) : Nat → Option Ob := fun i => match i with
  | 0 => some (.cells (.ints .u8 Lb) 5)
  | 1 => some (.cells (.lit ([.slice none 0 0, .slice (some ⟨0, 0, h⟩) m d])) 23)
  | 2 => some (.cells (.lit ([.int .u64 tot])) 62)
  | 3 => some (.cells (.lit ([.slice (some ⟨1, 0, none⟩) 2 2])) 22)
  | 4 => some (.cells (.lit ([.pointer (some ⟨2, 0, none⟩)])) 74)
  | 5 => some (.marks)
  | 6 => some (.loop ⟨.ready, none, [.pointer (some ⟨2, 0, none⟩), .func (.func 39) #[] #[.pointer (some ⟨3, 0, none⟩)], .pointer (some ⟨4, 0, none⟩), undef, undef, .func (.func 39) #[] #[.pointer (some ⟨3, 0, none⟩)]] ++ U 10, #[6], (rngAt Try.prog 31 0).2.1, (rngAt Try.prog 31 0).2.2, 5⟩)
  | 7 => some (.cells (.lit ([.func (.yield 6) #[] #[]])) 75)
  | 8 => some (.cells (.lit ([.int .u16 hi])) 27)
  | 9 => some (.cells (.lit ([.bool al])) 4)
  | 10 => some (.cells (.lit ([.func (.func 40) #[] #[.pointer (some ⟨9, 0, none⟩), .pointer (some ⟨8, 0, none⟩)]])) 76)
  | 11 => some (.cells (.lit ([.slice (some ⟨1, 0, none⟩) 2 2])) 22)
  | 12 => some (.marks)
  | 13 => some (.loop ⟨.ready, none, [.func (.yield 6) #[] #[], .pointer (some ⟨3, 0, none⟩), .pointer (some ⟨7, 0, none⟩), .pointer (some ⟨8, 0, none⟩), .pointer (some ⟨9, 0, none⟩), .pointer (some ⟨10, 0, none⟩), undef, undef, .func (.func 40) #[] #[.pointer (some ⟨9, 0, none⟩), .pointer (some ⟨8, 0, none⟩)], .slice (some ⟨1, 0, none⟩) 2 2, .func (.func 43) #[] #[.pointer (some ⟨11, 0, none⟩)]] ++ U 15, #[11], (rngAt Try.prog 39 0).2.1, (rngAt Try.prog 39 0).2.2, 12⟩)
  | _ => none
def R (La Lb : List Int) (n c m d : Nat) (g h : Option Nat) (tot hi : Int) (al : Bool) (i : Int) : St := ⟨[.func (.yield 13) #[] #[], .pointer (some ⟨11, 0, none⟩), undef, undef, .slice (some ⟨0, 0, h⟩) m d, undef, junk, .slice (some ⟨1, 0, none⟩) 2 2, .int .i64 2, .int .i64 1, .bool true, .pointer (some ⟨1, 1, none⟩), .slice (some ⟨0, 0, h⟩) m d, .slice (some ⟨0, 0, h⟩) m d, .int .i64 (m : Int), .int .i64 i, .bool true, junk, junk, .func (.yield 13) #[] #[], junk, .bool true, .bool false, junk, .int .i64 1], [], Tr.rebuild (RH La Lb n c m d g h tot hi al i) 14, 14, 2, [], fun _ => false, True, []⟩
def XH (La Lb : List Int) (n c m d : Nat) (g h : Option Nat) (tot hi : Int) (al : Bool) (i : Int) : Nat → Option Ob := fun i => match i with
  | 0 => some (.cells (.ints .u8 Lb) 5)
  | 1 => some (.cells (.lit ([.slice none 0 0, .slice (some ⟨0, 0, h⟩) m d])) 23)
  | 2 => some (.cells (.lit ([.int .u64 tot])) 62)
  | 3 => some (.cells (.lit ([.slice (some ⟨1, 0, none⟩) 2 2])) 22)
  | 4 => some (.cells (.lit ([.pointer (some ⟨2, 0, none⟩)])) 74)
  | 5 => some (.marks)
  | 6 => some (.loop ⟨.ready, none, [.pointer (some ⟨2, 0, none⟩), .func (.func 39) #[] #[.pointer (some ⟨3, 0, none⟩)], .pointer (some ⟨4, 0, none⟩), undef, undef, .func (.func 39) #[] #[.pointer (some ⟨3, 0, none⟩)]] ++ U 10, #[6], (rngAt Try.prog 31 0).2.1, (rngAt Try.prog 31 0).2.2, 5⟩)
  | 7 => some (.cells (.lit ([.func (.yield 6) #[] #[]])) 75)
  | 8 => some (.cells (.lit ([.int .u16 hi])) 27)
  | 9 => some (.cells (.lit ([.bool al])) 4)
  | 10 => some (.cells (.lit ([.func (.func 40) #[] #[.pointer (some ⟨9, 0, none⟩), .pointer (some ⟨8, 0, none⟩)]])) 76)
  | 11 => some (.cells (.lit ([.slice (some ⟨1, 0, none⟩) 2 2])) 22)
  | 12 => some (.marks)
  | 13 => some (.loop ⟨.ready, none, [.func (.yield 6) #[] #[], .pointer (some ⟨3, 0, none⟩), .pointer (some ⟨7, 0, none⟩), .pointer (some ⟨8, 0, none⟩), .pointer (some ⟨9, 0, none⟩), .pointer (some ⟨10, 0, none⟩), undef, undef, .func (.func 40) #[] #[.pointer (some ⟨9, 0, none⟩), .pointer (some ⟨8, 0, none⟩)], .slice (some ⟨1, 0, none⟩) 2 2, .func (.func 43) #[] #[.pointer (some ⟨11, 0, none⟩)]] ++ U 15, #[11], (rngAt Try.prog 39 0).2.1, (rngAt Try.prog 39 0).2.2, 12⟩)
  | _ => none
def X (La Lb : List Int) (n c m d : Nat) (g h : Option Nat) (tot hi : Int) (al : Bool) (i : Int) : St := ⟨[.func (.yield 13) #[] #[], .pointer (some ⟨11, 0, none⟩), undef, undef, .slice (some ⟨0, 0, h⟩) m d, undef, junk, .slice (some ⟨1, 0, none⟩) 2 2, .int .i64 2, .int .i64 1, .bool true, .pointer (some ⟨1, 1, none⟩), .slice (some ⟨0, 0, h⟩) m d, .slice (some ⟨0, 0, h⟩) m d, .int .i64 (m : Int), .int .i64 i, .bool false, junk, junk, .func (.yield 13) #[] #[], junk, .bool true, .bool false, junk, .int .i64 1], [], Tr.rebuild (XH La Lb n c m d g h tot hi al i) 14, 14, 2, [], fun _ => false, True, []⟩
theorem eI (La Lb : List Int) (n c m d : Nat) (g h : Option Nat) (tot hi : Int) (al : Bool) (i : Int) (tot0 hi0 : Int) (al0 : Bool) (rd : Option Nat) (hp : sr.pI Lb m al i) :
    Step Try.prog rd (E La Lb n c m d g h tot0 hi0 al0 0) sr.bodyI (E La Lb n c m d g h tot hi al i) (fun e s => e = .normal ∧ s = R La Lb n c m d g h tot (sr.hi1 (sr.x8 Lb i)) (!al) (sr.w1 i)) :=
  Step.std sr.pg (GivenOk.nothing _) (n := 200) (f := 43) (σ := []) (o := sr.o1) (n1 := 14) (g := RH La Lb n c m d g h tot (sr.hi1 (sr.x8 Lb i)) (!al) (sr.w1 i)) (by kernel_rfl) hp (Nat.le_refl _) rfl (by kernel_rfl)
theorem eJ (La Lb : List Int) (n c m d : Nat) (g h : Option Nat) (tot hi : Int) (al : Bool) (i : Int) (tot0 hi0 : Int) (al0 : Bool) (rd : Option Nat) (hp : sr.pJ Lb m al i) :
    Step Try.prog rd (E La Lb n c m d g h tot0 hi0 al0 0) sr.bodyI (E La Lb n c m d g h tot hi al i) (fun e s => e = .normal ∧ s = R La Lb n c m d g h (sr.tot2 tot hi (sr.x8 Lb i)) hi (!al) (sr.w1 i)) :=
  Step.std sr.pg (GivenOk.nothing _) (n := 200) (f := 43) (σ := []) (o := sr.o2) (n1 := 14) (g := RH La Lb n c m d g h (sr.tot2 tot hi (sr.x8 Lb i)) hi (!al) (sr.w1 i)) (by kernel_rfl) hp (Nat.le_refl _) rfl (by kernel_rfl)
theorem rI (La Lb : List Int) (n c m d : Nat) (g h : Option Nat) (tot hi : Int) (al : Bool) (i : Int) (tot0 hi0 : Int) (al0 : Bool) (rd : Option Nat) (hp : sr.pI Lb m al i) :
    Step Try.prog rd (E La Lb n c m d g h tot0 hi0 al0 0) sr.bodyI (R La Lb n c m d g h tot hi al i) (fun e s => e = .normal ∧ s = R La Lb n c m d g h tot (sr.hi1 (sr.x8 Lb i)) (!al) (sr.w1 i)) :=
  Step.std sr.pg (GivenOk.nothing _) (n := 200) (f := 43) (σ := []) (o := sr.o1) (n1 := 14) (g := RH La Lb n c m d g h tot (sr.hi1 (sr.x8 Lb i)) (!al) (sr.w1 i)) (by kernel_rfl) hp (Nat.le_refl _) rfl (by kernel_rfl)
theorem rJ (La Lb : List Int) (n c m d : Nat) (g h : Option Nat) (tot hi : Int) (al : Bool) (i : Int) (tot0 hi0 : Int) (al0 : Bool) (rd : Option Nat) (hp : sr.pJ Lb m al i) :
    Step Try.prog rd (E La Lb n c m d g h tot0 hi0 al0 0) sr.bodyI (R La Lb n c m d g h tot hi al i) (fun e s => e = .normal ∧ s = R La Lb n c m d g h (sr.tot2 tot hi (sr.x8 Lb i)) hi (!al) (sr.w1 i)) :=
  Step.std sr.pg (GivenOk.nothing _) (n := 200) (f := 43) (σ := []) (o := sr.o2) (n1 := 14) (g := RH La Lb n c m d g h (sr.tot2 tot hi (sr.x8 Lb i)) hi (!al) (sr.w1 i)) (by kernel_rfl) hp (Nat.le_refl _) rfl (by kernel_rfl)
theorem xR (La Lb : List Int) (n c m d : Nat) (g h : Option Nat) (tot hi : Int) (al : Bool) (i : Int) (tot0 hi0 : Int) (al0 : Bool) (rd : Option Nat) (hp : True ∧ decide (i < (m : Int)) = false) :
    Step Try.prog rd (E La Lb n c m d g h tot0 hi0 al0 0) sr.bodyI (R La Lb n c m d g h tot hi al i) (fun e s => e = .exit 2 ∧ s = X La Lb n c m d g h tot hi al i) :=
  Step.std sr.pg (GivenOk.nothing _) (n := 200) (f := 43) (σ := []) (o := [some false]) (n1 := 14) (g := XH La Lb n c m d g h tot hi al i) (by kernel_rfl) hp (Nat.le_refl _) rfl (by kernel_rfl)
theorem loopI (La Lb : List Int) (n c m d : Nat) (g h : Option Nat) (tot hi : Int) (al : Bool) (rd : Option Nat) (h0 : 0 < m) (hL : m ≤ Lb.length) (hn : m ≤ 4611686018427387904) :
    CodeOk Try.prog rd (.loop sr.bodyI) (E La Lb n c m d g h tot hi al 0) (.exit 2) (X La Lb n c m d g h (sr.scan Lb m 0 tot hi al).1 (sr.scan Lb m 0 tot hi al).2.1 (sr.scan Lb m 0 tot hi al).2.2 m) := by
  refine CodeOk.of_step (Step.loop (fun k s => (k = m + 1 ∧ s = E La Lb n c m d g h tot hi al 0) ∨ ∃ (j : Nat) (t' h' : Int) (a' : Bool), 1 ≤ j ∧ j ≤ m ∧ k = m - j ∧ s = R La Lb n c m d g h t' h' a' j ∧ sr.scan Lb (m - j) j t' h' a' = sr.scan Lb m 0 tot hi al) ?_ (m + 1) _ (.inl ⟨rfl, rfl⟩))
  rintro k s (⟨rfl, rfl⟩ | ⟨j, t', h', a', h1, h2, rfl, rfl, h3⟩)
  · obtain ⟨z, rfl⟩ : ∃ z, m = z + 1 := ⟨m - 1, by omega⟩
    cases al with
    | false =>
      refine (eI La Lb n c (z + 1) d g h tot hi false ((0 : Nat) : Int) tot hi false rd (sr.pI_ok h0 hL)).mono ?_
      rintro e s ⟨rfl, rfl⟩
      refine .inl ⟨rfl, z + 1 - 1, by omega, .inr ⟨1, tot, sr.hi1 (Lb.getD 0 0), true, Nat.le_refl _, h0, rfl, ?_, ?_⟩⟩
      · rw [sr.w1_eq h0 hn, sr.x8_eq]; rfl
      · simp only [sr.scan, Nat.add_sub_cancel, Nat.zero_add]
    | true =>
      refine (eJ La Lb n c (z + 1) d g h tot hi true ((0 : Nat) : Int) tot hi true rd (sr.pJ_ok h0 hL)).mono ?_
      rintro e s ⟨rfl, rfl⟩
      refine .inl ⟨rfl, z + 1 - 1, by omega, .inr ⟨1, sr.tot2 tot hi (Lb.getD 0 0), hi, false, Nat.le_refl _, h0, rfl, ?_, ?_⟩⟩
      · rw [sr.w1_eq h0 hn, sr.x8_eq]; rfl
      · simp only [sr.scan, Nat.add_sub_cancel, Nat.zero_add]
  · by_cases e : j = m
    · subst e
      refine (xR La Lb n c j d g h t' h' a' (j : Int) tot hi al rd ⟨trivial, by rw [decide_eq_false_iff_not]; omega⟩).mono ?_
      rintro e s ⟨rfl, rfl⟩
      refine .inr ⟨(by intro x; cases x), rfl, ?_⟩
      rw [← h3, Nat.sub_self]; rfl
    · have hlt : j < m := by omega
      have e1 : m - j = (m - (j + 1)) + 1 := by omega
      cases a' with
      | false =>
        refine (rI La Lb n c m d g h t' h' false (j : Int) tot hi al rd (sr.pI_ok hlt hL)).mono ?_
        rintro e s ⟨rfl, rfl⟩
        refine .inl ⟨rfl, m - (j + 1), by omega, .inr ⟨j + 1, t', sr.hi1 (Lb.getD j 0), true, by omega, by omega, rfl, ?_, ?_⟩⟩
        · rw [sr.w1_eq hlt hn, sr.x8_eq]; rfl
        · rw [← h3, e1]; rfl
      | true =>
        refine (rJ La Lb n c m d g h t' h' true (j : Int) tot hi al rd (sr.pJ_ok hlt hL)).mono ?_
        rintro e s ⟨rfl, rfl⟩
        refine .inl ⟨rfl, m - (j + 1), by omega, .inr ⟨j + 1, sr.tot2 t' h' (Lb.getD j 0), h', false, by omega, by omega, rfl, ?_, ?_⟩⟩
        · rw [sr.w1_eq hlt hn, sr.x8_eq]; rfl
        · rw [← h3, e1]; rfl
end b1
namespace b2
def EH (La Lb : List Int) (n c m d : Nat) (g h : Option Nat) (tot hi : Int) (al : Bool) (i : Int) : Nat → Option Ob := fun i => match i with
  | 1 => some (.cells (.ints .u8 Lb) 5)
  | 2 => some (.cells (.lit ([.slice (some ⟨0, 0, g⟩) 0 c, .slice (some ⟨1, 0, h⟩) m d])) 23)
  | 3 => some (.cells (.lit ([.int .u64 tot])) 62)
  | 4 => some (.cells (.lit ([.slice (some ⟨2, 0, none⟩) 2 2])) 22)
  | 5 => some (.cells (.lit ([.pointer (some ⟨3, 0, none⟩)])) 74)
  | 6 => some (.marks)
  | 7 => some (.loop ⟨.ready, none, [.pointer (some ⟨3, 0, none⟩), .func (.func 39) #[] #[.pointer (some ⟨4, 0, none⟩)], .pointer (some ⟨5, 0, none⟩), undef, undef, .func (.func 39) #[] #[.pointer (some ⟨4, 0, none⟩)]] ++ U 10, #[6], (rngAt Try.prog 31 0).2.1, (rngAt Try.prog 31 0).2.2, 6⟩)
  | 8 => some (.cells (.lit ([.func (.yield 7) #[] #[]])) 75)
  | 9 => some (.cells (.lit ([.int .u16 hi])) 27)
  | 10 => some (.cells (.lit ([.bool al])) 4)
  | 11 => some (.cells (.lit ([.func (.func 40) #[] #[.pointer (some ⟨10, 0, none⟩), .pointer (some ⟨9, 0, none⟩)]])) 76)
  | 12 => some (.cells (.lit ([.slice (some ⟨2, 0, none⟩) 2 2])) 22)
  | 13 => some (.marks)
  | 14 => some (.loop ⟨.ready, none, [.func (.yield 7) #[] #[], .pointer (some ⟨4, 0, none⟩), .pointer (some ⟨8, 0, none⟩), .pointer (some ⟨9, 0, none⟩), .pointer (some ⟨10, 0, none⟩), .pointer (some ⟨11, 0, none⟩), undef, undef, .func (.func 40) #[] #[.pointer (some ⟨10, 0, none⟩), .pointer (some ⟨9, 0, none⟩)], .slice (some ⟨2, 0, none⟩) 2 2, .func (.func 43) #[] #[.pointer (some ⟨12, 0, none⟩)]] ++ U 15, #[11], (rngAt Try.prog 39 0).2.1, (rngAt Try.prog 39 0).2.2, 13⟩)
  | _ => none
def E (La Lb : List Int) (n c m d : Nat) (g h : Option Nat) (tot hi : Int) (al : Bool) (i : Int) : St := ⟨[.func (.yield 14) #[] #[], .pointer (some ⟨12, 0, none⟩), undef, undef, .slice (some ⟨1, 0, h⟩) m d, undef, undef, .slice (some ⟨2, 0, none⟩) 2 2, .int .i64 2, .int .i64 1, .bool true, .pointer (some ⟨2, 1, none⟩), .slice (some ⟨1, 0, h⟩) m d, .slice (some ⟨1, 0, h⟩) m d, .int .i64 (m : Int), .int .i64 i, .bool false] ++ U 7 ++ [.int .i64 1], [], Tr.rebuild (EH La Lb n c m d g h tot hi al i) 15, 15, 3, [], fun _ => false, True, []⟩
def RH (La Lb : List Int) (n c m d : Nat) (g h : Option Nat) (tot hi : Int) (al : Bool) (i : Int) : Nat → Option Ob := fun i => match i with
  | 1 => some (.cells (.ints .u8 Lb) 5)
  | 2 => some (.cells (.lit ([.slice (some ⟨0, 0, g⟩) 0 c, .slice (some ⟨1, 0, h⟩) m d])) 23)
  | 3 => some (.cells (.lit ([.int .u64 tot])) 62)
  | 4 => some (.cells (.lit ([.slice (some ⟨2, 0, none⟩) 2 2])) 22)
  | 5 => some (.cells (.lit ([.pointer (some ⟨3, 0, none⟩)])) 74)
  | 6 => some (.marks)
  | 7 => some (.loop ⟨.ready, none, [.pointer (some ⟨3, 0, none⟩), .func (.func 39) #[] #[.pointer (some ⟨4, 0, none⟩)], .pointer (some ⟨5, 0, none⟩), undef, undef, .func (.func 39) #[] #[.pointer (some ⟨4, 0, none⟩)]] ++ U 10, #[6], (rngAt Try.prog 31 0).2.1, (rngAt Try.prog 31 0).2.2, 6⟩)
  | 8 => some (.cells (.lit ([.func (.yield 7) #[] #[]])) 75)
  | 9 => some (.cells (.lit ([.int .u16 hi])) 27)
  | 10 => some (.cells (.lit ([.bool al])) 4)
  | 11 => some (.cells (.lit ([.func (.func 40) #[] #[.pointer (some ⟨10, 0, none⟩), .pointer (some ⟨9, 0, none⟩)]])) 76)
  | 12 => some (.cells (.lit ([.slice (some ⟨2, 0, none⟩) 2 2])) 22)
  | 13 => some (.marks)
  | 14 => some (.loop ⟨.ready, none, [.func (.yield 7) #[] #[], .pointer (some ⟨4, 0, none⟩), .pointer (some ⟨8, 0, none⟩), .pointer (some ⟨9, 0, none⟩), .pointer (some ⟨10, 0, none⟩), .pointer (some ⟨11, 0, none⟩), undef, undef, .func (.func 40) #[] #[.pointer (some ⟨10, 0, none⟩), .pointer (some ⟨9, 0, none⟩)], .slice (some ⟨2, 0, none⟩) 2 2, .func (.func 43) #[] #[.pointer (some ⟨12, 0, none⟩)]] ++ U 15, #[11], (rngAt Try.prog 39 0).2.1, (rngAt Try.prog 39 0).2.2, 13⟩)
  | _ => none
def R (La Lb : List Int) (n c m d : Nat) (g h : Option Nat) (tot hi : Int) (al : Bool) (i : Int) : St := ⟨[.func (.yield 14) #[] #[], .pointer (some ⟨12, 0, none⟩), undef, undef, .slice (some ⟨1, 0, h⟩) m d, undef, junk, .slice (some ⟨2, 0, none⟩) 2 2, .int .i64 2, .int .i64 1, .bool true, .pointer (some ⟨2, 1, none⟩), .slice (some ⟨1, 0, h⟩) m d, .slice (some ⟨1, 0, h⟩) m d, .int .i64 (m : Int), .int .i64 i, .bool true, junk, junk, .func (.yield 14) #[] #[], junk, .bool true, .bool false, junk, .int .i64 1], [], Tr.rebuild (RH La Lb n c m d g h tot hi al i) 15, 15, 3, [], fun _ => false, True, []⟩
def XH (La Lb : List Int) (n c m d : Nat) (g h : Option Nat) (tot hi : Int) (al : Bool) (i : Int) : Nat → Option Ob := fun i => match i with
  | 1 => some (.cells (.ints .u8 Lb) 5)
  | 2 => some (.cells (.lit ([.slice (some ⟨0, 0, g⟩) 0 c, .slice (some ⟨1, 0, h⟩) m d])) 23)
  | 3 => some (.cells (.lit ([.int .u64 tot])) 62)
  | 4 => some (.cells (.lit ([.slice (some ⟨2, 0, none⟩) 2 2])) 22)
  | 5 => some (.cells (.lit ([.pointer (some ⟨3, 0, none⟩)])) 74)
  | 6 => some (.marks)
  | 7 => some (.loop ⟨.ready, none, [.pointer (some ⟨3, 0, none⟩), .func (.func 39) #[] #[.pointer (some ⟨4, 0, none⟩)], .pointer (some ⟨5, 0, none⟩), undef, undef, .func (.func 39) #[] #[.pointer (some ⟨4, 0, none⟩)]] ++ U 10, #[6], (rngAt Try.prog 31 0).2.1, (rngAt Try.prog 31 0).2.2, 6⟩)
  | 8 => some (.cells (.lit ([.func (.yield 7) #[] #[]])) 75)
  | 9 => some (.cells (.lit ([.int .u16 hi])) 27)
  | 10 => some (.cells (.lit ([.bool al])) 4)
  | 11 => some (.cells (.lit ([.func (.func 40) #[] #[.pointer (some ⟨10, 0, none⟩), .pointer (some ⟨9, 0, none⟩)]])) 76)
  | 12 => some (.cells (.lit ([.slice (some ⟨2, 0, none⟩) 2 2])) 22)
  | 13 => some (.marks)
  | 14 => some (.loop ⟨.ready, none, [.func (.yield 7) #[] #[], .pointer (some ⟨4, 0, none⟩), .pointer (some ⟨8, 0, none⟩), .pointer (some ⟨9, 0, none⟩), .pointer (some ⟨10, 0, none⟩), .pointer (some ⟨11, 0, none⟩), undef, undef, .func (.func 40) #[] #[.pointer (some ⟨10, 0, none⟩), .pointer (some ⟨9, 0, none⟩)], .slice (some ⟨2, 0, none⟩) 2 2, .func (.func 43) #[] #[.pointer (some ⟨12, 0, none⟩)]] ++ U 15, #[11], (rngAt Try.prog 39 0).2.1, (rngAt Try.prog 39 0).2.2, 13⟩)
  | _ => none
def X (La Lb : List Int) (n c m d : Nat) (g h : Option Nat) (tot hi : Int) (al : Bool) (i : Int) : St := ⟨[.func (.yield 14) #[] #[], .pointer (some ⟨12, 0, none⟩), undef, undef, .slice (some ⟨1, 0, h⟩) m d, undef, junk, .slice (some ⟨2, 0, none⟩) 2 2, .int .i64 2, .int .i64 1, .bool true, .pointer (some ⟨2, 1, none⟩), .slice (some ⟨1, 0, h⟩) m d, .slice (some ⟨1, 0, h⟩) m d, .int .i64 (m : Int), .int .i64 i, .bool false, junk, junk, .func (.yield 14) #[] #[], junk, .bool true, .bool false, junk, .int .i64 1], [], Tr.rebuild (XH La Lb n c m d g h tot hi al i) 15, 15, 3, [], fun _ => false, True, []⟩
theorem eI (La Lb : List Int) (n c m d : Nat) (g h : Option Nat) (tot hi : Int) (al : Bool) (i : Int) (tot0 hi0 : Int) (al0 : Bool) (rd : Option Nat) (hp : sr.pI Lb m al i) :
    Step Try.prog rd (E La Lb n c m d g h tot0 hi0 al0 0) sr.bodyI (E La Lb n c m d g h tot hi al i) (fun e s => e = .normal ∧ s = R La Lb n c m d g h tot (sr.hi1 (sr.x8 Lb i)) (!al) (sr.w1 i)) :=
  Step.std sr.pg (GivenOk.nothing _) (n := 200) (f := 43) (σ := []) (o := sr.o1) (n1 := 15) (g := RH La Lb n c m d g h tot (sr.hi1 (sr.x8 Lb i)) (!al) (sr.w1 i)) (by kernel_rfl) hp (Nat.le_refl _) rfl (by kernel_rfl)
theorem eJ (La Lb : List Int) (n c m d : Nat) (g h : Option Nat) (tot hi : Int) (al : Bool) (i : Int) (tot0 hi0 : Int) (al0 : Bool) (rd : Option Nat) (hp : sr.pJ Lb m al i) :
    Step Try.prog rd (E La Lb n c m d g h tot0 hi0 al0 0) sr.bodyI (E La Lb n c m d g h tot hi al i) (fun e s => e = .normal ∧ s = R La Lb n c m d g h (sr.tot2 tot hi (sr.x8 Lb i)) hi (!al) (sr.w1 i)) :=
  Step.std sr.pg (GivenOk.nothing _) (n := 200) (f := 43) (σ := []) (o := sr.o2) (n1 := 15) (g := RH La Lb n c m d g h (sr.tot2 tot hi (sr.x8 Lb i)) hi (!al) (sr.w1 i)) (by kernel_rfl) hp (Nat.le_refl _) rfl (by kernel_rfl)
theorem rI (La Lb : List Int) (n c m d : Nat) (g h : Option Nat) (tot hi : Int) (al : Bool) (i : Int) (tot0 hi0 : Int) (al0 : Bool) (rd : Option Nat) (hp : sr.pI Lb m al i) :
    Step Try.prog rd (E La Lb n c m d g h tot0 hi0 al0 0) sr.bodyI (R La Lb n c m d g h tot hi al i) (fun e s => e = .normal ∧ s = R La Lb n c m d g h tot (sr.hi1 (sr.x8 Lb i)) (!al) (sr.w1 i)) :=
  Step.std sr.pg (GivenOk.nothing _) (n := 200) (f := 43) (σ := []) (o := sr.o1) (n1 := 15) (g := RH La Lb n c m d g h tot (sr.hi1 (sr.x8 Lb i)) (!al) (sr.w1 i)) (by kernel_rfl) hp (Nat.le_refl _) rfl (by kernel_rfl)
theorem rJ (La Lb : List Int) (n c m d : Nat) (g h : Option Nat) (tot hi : Int) (al : Bool) (i : Int) (tot0 hi0 : Int) (al0 : Bool) (rd : Option Nat) (hp : sr.pJ Lb m al i) :
    Step Try.prog rd (E La Lb n c m d g h tot0 hi0 al0 0) sr.bodyI (R La Lb n c m d g h tot hi al i) (fun e s => e = .normal ∧ s = R La Lb n c m d g h (sr.tot2 tot hi (sr.x8 Lb i)) hi (!al) (sr.w1 i)) :=
  Step.std sr.pg (GivenOk.nothing _) (n := 200) (f := 43) (σ := []) (o := sr.o2) (n1 := 15) (g := RH La Lb n c m d g h (sr.tot2 tot hi (sr.x8 Lb i)) hi (!al) (sr.w1 i)) (by kernel_rfl) hp (Nat.le_refl _) rfl (by kernel_rfl)
theorem xR (La Lb : List Int) (n c m d : Nat) (g h : Option Nat) (tot hi : Int) (al : Bool) (i : Int) (tot0 hi0 : Int) (al0 : Bool) (rd : Option Nat) (hp : True ∧ decide (i < (m : Int)) = false) :
    Step Try.prog rd (E La Lb n c m d g h tot0 hi0 al0 0) sr.bodyI (R La Lb n c m d g h tot hi al i) (fun e s => e = .exit 2 ∧ s = X La Lb n c m d g h tot hi al i) :=
  Step.std sr.pg (GivenOk.nothing _) (n := 200) (f := 43) (σ := []) (o := [some false]) (n1 := 15) (g := XH La Lb n c m d g h tot hi al i) (by kernel_rfl) hp (Nat.le_refl _) rfl (by kernel_rfl)
theorem loopI (La Lb : List Int) (n c m d : Nat) (g h : Option Nat) (tot hi : Int) (al : Bool) (rd : Option Nat) (h0 : 0 < m) (hL : m ≤ Lb.length) (hn : m ≤ 4611686018427387904) :
    CodeOk Try.prog rd (.loop sr.bodyI) (E La Lb n c m d g h tot hi al 0) (.exit 2) (X La Lb n c m d g h (sr.scan Lb m 0 tot hi al).1 (sr.scan Lb m 0 tot hi al).2.1 (sr.scan Lb m 0 tot hi al).2.2 m) := by
  refine CodeOk.of_step (Step.loop (fun k s => (k = m + 1 ∧ s = E La Lb n c m d g h tot hi al 0) ∨ ∃ (j : Nat) (t' h' : Int) (a' : Bool), 1 ≤ j ∧ j ≤ m ∧ k = m - j ∧ s = R La Lb n c m d g h t' h' a' j ∧ sr.scan Lb (m - j) j t' h' a' = sr.scan Lb m 0 tot hi al) ?_ (m + 1) _ (.inl ⟨rfl, rfl⟩))
  rintro k s (⟨rfl, rfl⟩ | ⟨j, t', h', a', h1, h2, rfl, rfl, h3⟩)
  · obtain ⟨z, rfl⟩ : ∃ z, m = z + 1 := ⟨m - 1, by omega⟩
    cases al with
    | false =>
      refine (eI La Lb n c (z + 1) d g h tot hi false ((0 : Nat) : Int) tot hi false rd (sr.pI_ok h0 hL)).mono ?_
      rintro e s ⟨rfl, rfl⟩
      refine .inl ⟨rfl, z + 1 - 1, by omega, .inr ⟨1, tot, sr.hi1 (Lb.getD 0 0), true, Nat.le_refl _, h0, rfl, ?_, ?_⟩⟩
      · rw [sr.w1_eq h0 hn, sr.x8_eq]; rfl
      · simp only [sr.scan, Nat.add_sub_cancel, Nat.zero_add]
    | true =>
      refine (eJ La Lb n c (z + 1) d g h tot hi true ((0 : Nat) : Int) tot hi true rd (sr.pJ_ok h0 hL)).mono ?_
      rintro e s ⟨rfl, rfl⟩
      refine .inl ⟨rfl, z + 1 - 1, by omega, .inr ⟨1, sr.tot2 tot hi (Lb.getD 0 0), hi, false, Nat.le_refl _, h0, rfl, ?_, ?_⟩⟩
      · rw [sr.w1_eq h0 hn, sr.x8_eq]; rfl
      · simp only [sr.scan, Nat.add_sub_cancel, Nat.zero_add]
  · by_cases e : j = m
    · subst e
      refine (xR La Lb n c j d g h t' h' a' (j : Int) tot hi al rd ⟨trivial, by rw [decide_eq_false_iff_not]; omega⟩).mono ?_
      rintro e s ⟨rfl, rfl⟩
      refine .inr ⟨(by intro x; cases x), rfl, ?_⟩
      rw [← h3, Nat.sub_self]; rfl
    · have hlt : j < m := by omega
      have e1 : m - j = (m - (j + 1)) + 1 := by omega
      cases a' with
      | false =>
        refine (rI La Lb n c m d g h t' h' false (j : Int) tot hi al rd (sr.pI_ok hlt hL)).mono ?_
        rintro e s ⟨rfl, rfl⟩
        refine .inl ⟨rfl, m - (j + 1), by omega, .inr ⟨j + 1, t', sr.hi1 (Lb.getD j 0), true, by omega, by omega, rfl, ?_, ?_⟩⟩
        · rw [sr.w1_eq hlt hn, sr.x8_eq]; rfl
        · rw [← h3, e1]; rfl
      | true =>
        refine (rJ La Lb n c m d g h t' h' true (j : Int) tot hi al rd (sr.pJ_ok hlt hL)).mono ?_
        rintro e s ⟨rfl, rfl⟩
        refine .inl ⟨rfl, m - (j + 1), by omega, .inr ⟨j + 1, sr.tot2 t' h' (Lb.getD j 0), h', false, by omega, by omega, rfl, ?_, ?_⟩⟩
        · rw [sr.w1_eq hlt hn, sr.x8_eq]; rfl
        · rw [← h3, e1]; rfl
end b2
namespace b3
def EH (La Lb : List Int) (n c m d : Nat) (g h : Option Nat) (tot hi : Int) (al : Bool) (i : Int) : Nat → Option Ob := fun i => match i with
  | 0 => some (.cells (.ints .u8 La) 5)
  | 1 => some (.cells (.ints .u8 Lb) 5)
  | 2 => some (.cells (.lit ([.slice (some ⟨0, 0, g⟩) n c, .slice (some ⟨1, 0, h⟩) m d])) 23)
  | 3 => some (.cells (.lit ([.int .u64 tot])) 62)
  | 4 => some (.cells (.lit ([.slice (some ⟨2, 0, none⟩) 2 2])) 22)
  | 5 => some (.cells (.lit ([.pointer (some ⟨3, 0, none⟩)])) 74)
  | 6 => some (.marks)
  | 7 => some (.loop ⟨.ready, none, [.pointer (some ⟨3, 0, none⟩), .func (.func 39) #[] #[.pointer (some ⟨4, 0, none⟩)], .pointer (some ⟨5, 0, none⟩), undef, undef, .func (.func 39) #[] #[.pointer (some ⟨4, 0, none⟩)]] ++ U 10, #[6], (rngAt Try.prog 31 0).2.1, (rngAt Try.prog 31 0).2.2, 6⟩)
  | 8 => some (.cells (.lit ([.func (.yield 7) #[] #[]])) 75)
  | 9 => some (.cells (.lit ([.int .u16 hi])) 27)
  | 10 => some (.cells (.lit ([.bool al])) 4)
  | 11 => some (.cells (.lit ([.func (.func 40) #[] #[.pointer (some ⟨10, 0, none⟩), .pointer (some ⟨9, 0, none⟩)]])) 76)
  | 12 => some (.cells (.lit ([.slice (some ⟨2, 0, none⟩) 2 2])) 22)
  | 13 => some (.marks)
  | 14 => some (.loop ⟨.ready, none, [.func (.yield 7) #[] #[], .pointer (some ⟨4, 0, none⟩), .pointer (some ⟨8, 0, none⟩), .pointer (some ⟨9, 0, none⟩), .pointer (some ⟨10, 0, none⟩), .pointer (some ⟨11, 0, none⟩), undef, undef, .func (.func 40) #[] #[.pointer (some ⟨10, 0, none⟩), .pointer (some ⟨9, 0, none⟩)], .slice (some ⟨2, 0, none⟩) 2 2, .func (.func 43) #[] #[.pointer (some ⟨12, 0, none⟩)]] ++ U 15, #[11], (rngAt Try.prog 39 0).2.1, (rngAt Try.prog 39 0).2.2, 13⟩)
  | _ => none
def E (La Lb : List Int) (n c m d : Nat) (g h : Option Nat) (tot hi : Int) (al : Bool) (i : Int) : St := ⟨[.func (.yield 14) #[] #[], .pointer (some ⟨12, 0, none⟩), undef, undef, .slice (some ⟨1, 0, h⟩) m d, undef, junk, .slice (some ⟨2, 0, none⟩) 2 2, .int .i64 2, .int .i64 1, .bool true, .pointer (some ⟨2, 1, none⟩), .slice (some ⟨1, 0, h⟩) m d, .slice (some ⟨1, 0, h⟩) m d, .int .i64 (m : Int), .int .i64 i, .bool false, junk, junk, .func (.yield 14) #[] #[], junk, .bool true, .bool false, junk, .int .i64 1], [], Tr.rebuild (EH La Lb n c m d g h tot hi al i) 15, 15, 3, [], fun _ => false, True, []⟩
def RH (La Lb : List Int) (n c m d : Nat) (g h : Option Nat) (tot hi : Int) (al : Bool) (i : Int) : Nat → Option Ob := fun i => match i with
  | 0 => some (.cells (.ints .u8 La) 5)
  | 1 => some (.cells (.ints .u8 Lb) 5)
  | 2 => some (.cells (.lit ([.slice (some ⟨0, 0, g⟩) n c, .slice (some ⟨1, 0, h⟩) m d])) 23)
  | 3 => some (.cells (.lit ([.int .u64 tot])) 62)
  | 4 => some (.cells (.lit ([.slice (some ⟨2, 0, none⟩) 2 2])) 22)
  | 5 => some (.cells (.lit ([.pointer (some ⟨3, 0, none⟩)])) 74)
  | 6 => some (.marks)
  | 7 => some (.loop ⟨.ready, none, [.pointer (some ⟨3, 0, none⟩), .func (.func 39) #[] #[.pointer (some ⟨4, 0, none⟩)], .pointer (some ⟨5, 0, none⟩), undef, undef, .func (.func 39) #[] #[.pointer (some ⟨4, 0, none⟩)]] ++ U 10, #[6], (rngAt Try.prog 31 0).2.1, (rngAt Try.prog 31 0).2.2, 6⟩)
  | 8 => some (.cells (.lit ([.func (.yield 7) #[] #[]])) 75)
  | 9 => some (.cells (.lit ([.int .u16 hi])) 27)
  | 10 => some (.cells (.lit ([.bool al])) 4)
  | 11 => some (.cells (.lit ([.func (.func 40) #[] #[.pointer (some ⟨10, 0, none⟩), .pointer (some ⟨9, 0, none⟩)]])) 76)
  | 12 => some (.cells (.lit ([.slice (some ⟨2, 0, none⟩) 2 2])) 22)
  | 13 => some (.marks)
  | 14 => some (.loop ⟨.ready, none, [.func (.yield 7) #[] #[], .pointer (some ⟨4, 0, none⟩), .pointer (some ⟨8, 0, none⟩), .pointer (some ⟨9, 0, none⟩), .pointer (some ⟨10, 0, none⟩), .pointer (some ⟨11, 0, none⟩), undef, undef, .func (.func 40) #[] #[.pointer (some ⟨10, 0, none⟩), .pointer (some ⟨9, 0, none⟩)], .slice (some ⟨2, 0, none⟩) 2 2, .func (.func 43) #[] #[.pointer (some ⟨12, 0, none⟩)]] ++ U 15, #[11], (rngAt Try.prog 39 0).2.1, (rngAt Try.prog 39 0).2.2, 13⟩)
  | _ => none
def R (La Lb : List Int) (n c m d : Nat) (g h : Option Nat) (tot hi : Int) (al : Bool) (i : Int) : St := ⟨[.func (.yield 14) #[] #[], .pointer (some ⟨12, 0, none⟩), undef, undef, .slice (some ⟨1, 0, h⟩) m d, undef, junk, .slice (some ⟨2, 0, none⟩) 2 2, .int .i64 2, .int .i64 1, .bool true, .pointer (some ⟨2, 1, none⟩), .slice (some ⟨1, 0, h⟩) m d, .slice (some ⟨1, 0, h⟩) m d, .int .i64 (m : Int), .int .i64 i, .bool true, junk, junk, .func (.yield 14) #[] #[], junk, .bool true, .bool false, junk, .int .i64 1], [], Tr.rebuild (RH La Lb n c m d g h tot hi al i) 15, 15, 3, [], fun _ => false, True, []⟩
def XH (La Lb : List Int) (n c m d : Nat) (g h : Option Nat) (tot hi : Int) (al : Bool) (i : Int) : Nat → Option Ob := fun i => match i with
  | 0 => some (.cells (.ints .u8 La) 5)
  | 1 => some (.cells (.ints .u8 Lb) 5)
  | 2 => some (.cells (.lit ([.slice (some ⟨0, 0, g⟩) n c, .slice (some ⟨1, 0, h⟩) m d])) 23)
  | 3 => some (.cells (.lit ([.int .u64 tot])) 62)
  | 4 => some (.cells (.lit ([.slice (some ⟨2, 0, none⟩) 2 2])) 22)
  | 5 => some (.cells (.lit ([.pointer (some ⟨3, 0, none⟩)])) 74)
  | 6 => some (.marks)
  | 7 => some (.loop ⟨.ready, none, [.pointer (some ⟨3, 0, none⟩), .func (.func 39) #[] #[.pointer (some ⟨4, 0, none⟩)], .pointer (some ⟨5, 0, none⟩), undef, undef, .func (.func 39) #[] #[.pointer (some ⟨4, 0, none⟩)]] ++ U 10, #[6], (rngAt Try.prog 31 0).2.1, (rngAt Try.prog 31 0).2.2, 6⟩)
  | 8 => some (.cells (.lit ([.func (.yield 7) #[] #[]])) 75)
  | 9 => some (.cells (.lit ([.int .u16 hi])) 27)
  | 10 => some (.cells (.lit ([.bool al])) 4)
  | 11 => some (.cells (.lit ([.func (.func 40) #[] #[.pointer (some ⟨10, 0, none⟩), .pointer (some ⟨9, 0, none⟩)]])) 76)
  | 12 => some (.cells (.lit ([.slice (some ⟨2, 0, none⟩) 2 2])) 22)
  | 13 => some (.marks)
  | 14 => some (.loop ⟨.ready, none, [.func (.yield 7) #[] #[], .pointer (some ⟨4, 0, none⟩), .pointer (some ⟨8, 0, none⟩), .pointer (some ⟨9, 0, none⟩), .pointer (some ⟨10, 0, none⟩), .pointer (some ⟨11, 0, none⟩), undef, undef, .func (.func 40) #[] #[.pointer (some ⟨10, 0, none⟩), .pointer (some ⟨9, 0, none⟩)], .slice (some ⟨2, 0, none⟩) 2 2, .func (.func 43) #[] #[.pointer (some ⟨12, 0, none⟩)]] ++ U 15, #[11], (rngAt Try.prog 39 0).2.1, (rngAt Try.prog 39 0).2.2, 13⟩)
  | _ => none
def X (La Lb : List Int) (n c m d : Nat) (g h : Option Nat) (tot hi : Int) (al : Bool) (i : Int) : St := ⟨[.func (.yield 14) #[] #[], .pointer (some ⟨12, 0, none⟩), undef, undef, .slice (some ⟨1, 0, h⟩) m d, undef, junk, .slice (some ⟨2, 0, none⟩) 2 2, .int .i64 2, .int .i64 1, .bool true, .pointer (some ⟨2, 1, none⟩), .slice (some ⟨1, 0, h⟩) m d, .slice (some ⟨1, 0, h⟩) m d, .int .i64 (m : Int), .int .i64 i, .bool false, junk, junk, .func (.yield 14) #[] #[], junk, .bool true, .bool false, junk, .int .i64 1], [], Tr.rebuild (XH La Lb n c m d g h tot hi al i) 15, 15, 3, [], fun _ => false, True, []⟩
theorem eI (La Lb : List Int) (n c m d : Nat) (g h : Option Nat) (tot hi : Int) (al : Bool) (i : Int) (tot0 hi0 : Int) (al0 : Bool) (rd : Option Nat) (hp : sr.pI Lb m al i) :
    Step Try.prog rd (E La Lb n c m d g h tot0 hi0 al0 0) sr.bodyI (E La Lb n c m d g h tot hi al i) (fun e s => e = .normal ∧ s = R La Lb n c m d g h tot (sr.hi1 (sr.x8 Lb i)) (!al) (sr.w1 i)) :=
  Step.std sr.pg (GivenOk.nothing _) (n := 200) (f := 43) (σ := []) (o := sr.o1) (n1 := 15) (g := RH La Lb n c m d g h tot (sr.hi1 (sr.x8 Lb i)) (!al) (sr.w1 i)) (by kernel_rfl) hp (Nat.le_refl _) rfl (by kernel_rfl)
theorem eJ (La Lb : List Int) (n c m d : Nat) (g h : Option Nat) (tot hi : Int) (al : Bool) (i : Int) (tot0 hi0 : Int) (al0 : Bool) (rd : Option Nat) (hp : sr.pJ Lb m al i) :
    Step Try.prog rd (E La Lb n c m d g h tot0 hi0 al0 0) sr.bodyI (E La Lb n c m d g h tot hi al i) (fun e s => e = .normal ∧ s = R La Lb n c m d g h (sr.tot2 tot hi (sr.x8 Lb i)) hi (!al) (sr.w1 i)) :=
  Step.std sr.pg (GivenOk.nothing _) (n := 200) (f := 43) (σ := []) (o := sr.o2) (n1 := 15) (g := RH La Lb n c m d g h (sr.tot2 tot hi (sr.x8 Lb i)) hi (!al) (sr.w1 i)) (by kernel_rfl) hp (Nat.le_refl _) rfl (by kernel_rfl)
theorem rI (La Lb : List Int) (n c m d : Nat) (g h : Option Nat) (tot hi : Int) (al : Bool) (i : Int) (tot0 hi0 : Int) (al0 : Bool) (rd : Option Nat) (hp : sr.pI Lb m al i) :
    Step Try.prog rd (E La Lb n c m d g h tot0 hi0 al0 0) sr.bodyI (R La Lb n c m d g h tot hi al i) (fun e s => e = .normal ∧ s = R La Lb n c m d g h tot (sr.hi1 (sr.x8 Lb i)) (!al) (sr.w1 i)) :=
  Step.std sr.pg (GivenOk.nothing _) (n := 200) (f := 43) (σ := []) (o := sr.o1) (n1 := 15) (g := RH La Lb n c m d g h tot (sr.hi1 (sr.x8 Lb i)) (!al) (sr.w1 i)) (by kernel_rfl) hp (Nat.le_refl _) rfl (by kernel_rfl)
theorem rJ (La Lb : List Int) (n c m d : Nat) (g h : Option Nat) (tot hi : Int) (al : Bool) (i : Int) (tot0 hi0 : Int) (al0 : Bool) (rd : Option Nat) (hp : sr.pJ Lb m al i) :
    Step Try.prog rd (E La Lb n c m d g h tot0 hi0 al0 0) sr.bodyI (R La Lb n c m d g h tot hi al i) (fun e s => e = .normal ∧ s = R La Lb n c m d g h (sr.tot2 tot hi (sr.x8 Lb i)) hi (!al) (sr.w1 i)) :=
  Step.std sr.pg (GivenOk.nothing _) (n := 200) (f := 43) (σ := []) (o := sr.o2) (n1 := 15) (g := RH La Lb n c m d g h (sr.tot2 tot hi (sr.x8 Lb i)) hi (!al) (sr.w1 i)) (by kernel_rfl) hp (Nat.le_refl _) rfl (by kernel_rfl)
theorem xR (La Lb : List Int) (n c m d : Nat) (g h : Option Nat) (tot hi : Int) (al : Bool) (i : Int) (tot0 hi0 : Int) (al0 : Bool) (rd : Option Nat) (hp : True ∧ decide (i < (m : Int)) = false) :
    Step Try.prog rd (E La Lb n c m d g h tot0 hi0 al0 0) sr.bodyI (R La Lb n c m d g h tot hi al i) (fun e s => e = .exit 2 ∧ s = X La Lb n c m d g h tot hi al i) :=
  Step.std sr.pg (GivenOk.nothing _) (n := 200) (f := 43) (σ := []) (o := [some false]) (n1 := 15) (g := XH La Lb n c m d g h tot hi al i) (by kernel_rfl) hp (Nat.le_refl _) rfl (by kernel_rfl)
theorem loopI (La Lb : List Int) (n c m d : Nat) (g h : Option Nat) (tot hi : Int) (al : Bool) (rd : Option Nat) (h0 : 0 < m) (hL : m ≤ Lb.length) (hn : m ≤ 4611686018427387904) :
    CodeOk Try.prog rd (.loop sr.bodyI) (E La Lb n c m d g h tot hi al 0) (.exit 2) (X La Lb n c m d g h (sr.scan Lb m 0 tot hi al).1 (sr.scan Lb m 0 tot hi al).2.1 (sr.scan Lb m 0 tot hi al).2.2 m) := by
  refine CodeOk.of_step (Step.loop (fun k s => (k = m + 1 ∧ s = E La Lb n c m d g h tot hi al 0) ∨ ∃ (j : Nat) (t' h' : Int) (a' : Bool), 1 ≤ j ∧ j ≤ m ∧ k = m - j ∧ s = R La Lb n c m d g h t' h' a' j ∧ sr.scan Lb (m - j) j t' h' a' = sr.scan Lb m 0 tot hi al) ?_ (m + 1) _ (.inl ⟨rfl, rfl⟩))
  rintro k s (⟨rfl, rfl⟩ | ⟨j, t', h', a', h1, h2, rfl, rfl, h3⟩)
  · obtain ⟨z, rfl⟩ : ∃ z, m = z + 1 := ⟨m - 1, by omega⟩
    cases al with
    | false =>
      refine (eI La Lb n c (z + 1) d g h tot hi false ((0 : Nat) : Int) tot hi false rd (sr.pI_ok h0 hL)).mono ?_
      rintro e s ⟨rfl, rfl⟩
      refine .inl ⟨rfl, z + 1 - 1, by omega, .inr ⟨1, tot, sr.hi1 (Lb.getD 0 0), true, Nat.le_refl _, h0, rfl, ?_, ?_⟩⟩
      · rw [sr.w1_eq h0 hn, sr.x8_eq]; rfl
      · simp only [sr.scan, Nat.add_sub_cancel, Nat.zero_add]
    | true =>
      refine (eJ La Lb n c (z + 1) d g h tot hi true ((0 : Nat) : Int) tot hi true rd (sr.pJ_ok h0 hL)).mono ?_
      rintro e s ⟨rfl, rfl⟩
      refine .inl ⟨rfl, z + 1 - 1, by omega, .inr ⟨1, sr.tot2 tot hi (Lb.getD 0 0), hi, false, Nat.le_refl _, h0, rfl, ?_, ?_⟩⟩
      · rw [sr.w1_eq h0 hn, sr.x8_eq]; rfl
      · simp only [sr.scan, Nat.add_sub_cancel, Nat.zero_add]
  · by_cases e : j = m
    · subst e
      refine (xR La Lb n c j d g h t' h' a' (j : Int) tot hi al rd ⟨trivial, by rw [decide_eq_false_iff_not]; omega⟩).mono ?_
      rintro e s ⟨rfl, rfl⟩
      refine .inr ⟨(by intro x; cases x), rfl, ?_⟩
      rw [← h3, Nat.sub_self]; rfl
    · have hlt : j < m := by omega
      have e1 : m - j = (m - (j + 1)) + 1 := by omega
      cases a' with
      | false =>
        refine (rI La Lb n c m d g h t' h' false (j : Int) tot hi al rd (sr.pI_ok hlt hL)).mono ?_
        rintro e s ⟨rfl, rfl⟩
        refine .inl ⟨rfl, m - (j + 1), by omega, .inr ⟨j + 1, t', sr.hi1 (Lb.getD j 0), true, by omega, by omega, rfl, ?_, ?_⟩⟩
        · rw [sr.w1_eq hlt hn, sr.x8_eq]; rfl
        · rw [← h3, e1]; rfl
      | true =>
        refine (rJ La Lb n c m d g h t' h' true (j : Int) tot hi al rd (sr.pJ_ok hlt hL)).mono ?_
        rintro e s ⟨rfl, rfl⟩
        refine .inl ⟨rfl, m - (j + 1), by omega, .inr ⟨j + 1, sr.tot2 t' h' (Lb.getD j 0), h', false, by omega, by omega, rfl, ?_, ?_⟩⟩
        · rw [sr.w1_eq hlt hn, sr.x8_eq]; rfl
        · rw [← h3, e1]; rfl
end b3
end
end st
end Go.Proofs.Yteknepfcbpoooab
