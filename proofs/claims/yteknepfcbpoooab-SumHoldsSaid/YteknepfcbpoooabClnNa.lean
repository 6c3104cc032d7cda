/- Read off the code by the clean reading. -/
import Derived.Test.YteknepfcbpoooabClnSb
import Derived.Test.YteknepfcbpoooabClnQc
set_option linter.unusedVariables false
set_option linter.unusedSimpArgs false
set_option linter.deprecated false
set_option maxRecDepth 100000
namespace Go.Proofs.Yteknepfcbpoooab
open Go.ChangeShapes Go.WideShapes Go.ChangeAt Go.RowKit Go.Cln
namespace pa
set_option linter.unusedVariables false
noncomputable section
def J (n : Nat) : List Value := List.replicate n junk
def U (n : Nat) : List Value := List.replicate n undef
def S (P n c : Nat) : Value := .slice (some ⟨P, 0, some 1001⟩) n c
def ix (k : Nat) : Nat := 0 + k * 1
def H (x : Nest) (P n c : Nat) (tot hi : Int) (al : Bool) : Nat → Option Ob := fun i => match i with
  | 0 => some (.fam x.F)
  | 1 => some (.cells (.lit [.int .u64 tot]) 62)
  | 2 => some (.cells (.lit [S P n c]) 22)
  | 3 => some (.cells (.lit [.pointer (some ⟨1, 0, none⟩)]) 74)
  | 4 => some (.marks)
  | 5 => some (.loop ⟨.ready, none, [.pointer (some ⟨1, 0, none⟩), .func (.func 39) #[] #[.pointer (some ⟨2, 0, none⟩)], .pointer (some ⟨3, 0, none⟩), undef, undef, .func (.func 39) #[] #[.pointer (some ⟨2, 0, none⟩)]] ++ U 10, #[6], (rngAt Try.prog 31 0).2.1, (rngAt Try.prog 31 0).2.2, 4⟩)
  | 6 => some (.cells (.lit [.func (.yield 5) #[] #[]]) 75)
  | 7 => some (.cells (.lit [.int .u16 hi]) 27)
  | 8 => some (.cells (.lit [.bool al]) 4)
  | 9 => some (.cells (.lit [.func (.func 40) #[] #[.pointer (some ⟨8, 0, none⟩), .pointer (some ⟨7, 0, none⟩)]]) 76)
  | 10 => some (.cells (.lit [S P n c]) 22)
  | 11 => some (.marks)
  | 12 => some (.loop ⟨.ready, none, [.func (.yield 5) #[] #[], .pointer (some ⟨2, 0, none⟩), .pointer (some ⟨6, 0, none⟩), .pointer (some ⟨7, 0, none⟩), .pointer (some ⟨8, 0, none⟩), .pointer (some ⟨9, 0, none⟩), undef, undef, .func (.func 40) #[] #[.pointer (some ⟨8, 0, none⟩), .pointer (some ⟨7, 0, none⟩)], S P n c, .func (.func 43) #[] #[.pointer (some ⟨10, 0, none⟩)]] ++ U 15, #[11], (rngAt Try.prog 39 0).2.1, (rngAt Try.prog 39 0).2.2, 11⟩)
  | _ => none
abbrev part (x : Nest) (P k : Nat) : Value := .slice (some ⟨x.Q P (ix k), 0, some 1000⟩) (x.m P (ix k)) (x.c P (ix k))
def iS (t6 : Value) (T : List Value) (x : Nest) (P n c k : Nat) (tot hi : Int) (al : Bool) (i : Int) : St :=
  ⟨[.func (.yield 12) #[] #[], .pointer (some ⟨10, 0, none⟩), undef, undef, part x P k, undef, t6, S P n c, .int .i64 (nI n), .int .i64 (nI k), .bool true, .pointer (some ⟨P, ix k, some 1001⟩), part x P k, part x P k, .int .i64 ((x.m P (ix k) : Nat) : Int), .int .i64 i] ++ T, [], Tr.rebuild (H x P n c tot hi al) 13, 13, 1, [], fun _ => false, True, []⟩
abbrev SB := (x : Nest) → (P n c k : Nat) → (tot hi : Int) → (al : Bool) → (i : Int) → St
def EA : SB := iS undef (U 9)
def ZA : SB := iS undef (J 1 ++ U 8)
def RA : SB := iS junk (J 8 ++ U 1)
def EB : SB := iS undef (J 1 ++ (U 7 ++ J 1))
def RB : SB := iS junk (J 9)
def bodyI : Code := loopB Try.prog 43 1
def D0 (x : Nest) (P k : Nat) : List Int := x.D (x.Q P (ix k))
def go (s : St) (rd : Option Nat) (o : List (Option Bool)) (t : St) : Option (Exit × Prop × Seen) := ((mk Try.prog Given.nothing 200).code 43 rd bodyI { s with obl := True, orc := o }).map (fun r => (r.1, r.2.obl, seenIn r.2 t []))
def runI (s t : SB) : Prop := ∀ (x : Nest) (P n c k : Nat) (tot hi : Int) (al : Bool) (i : Int) (rd : Option Nat), go (s x P n c k tot hi al i) rd sr.o1 (t x P n c k tot (sr.hi1 (sr.x8 (D0 x P k) i)) (!al) (sr.w1 i)) =
    some (.normal, sr.pI (D0 x P k) (x.m P (ix k)) al i, seenAs (t x P n c k tot (sr.hi1 (sr.x8 (D0 x P k) i)) (!al) (sr.w1 i)) [] 13)
def runJ (s t : SB) : Prop := ∀ (x : Nest) (P n c k : Nat) (tot hi : Int) (al : Bool) (i : Int) (rd : Option Nat), go (s x P n c k tot hi al i) rd sr.o2 (t x P n c k (sr.tot2 tot hi (sr.x8 (D0 x P k) i)) hi (!al) (sr.w1 i)) =
    some (.normal, sr.pJ (D0 x P k) (x.m P (ix k)) al i, seenAs (t x P n c k (sr.tot2 tot hi (sr.x8 (D0 x P k) i)) hi (!al) (sr.w1 i)) [] 13)
def runX (s t : SB) : Prop := ∀ (x : Nest) (P n c k : Nat) (tot hi : Int) (al : Bool) (i : Int) (rd : Option Nat), go (s x P n c k tot hi al i) rd [some false] (t x P n c k tot hi al i) =
    some (.exit 2, True ∧ decide (i < ((x.m P (ix k) : Nat) : Int)) = false, seenAs (t x P n c k tot hi al i) [] 13)
theorem kIA : runI EA RA := by intro x P n c k tot hi al i rd; kernel_rfl
theorem kJA : runJ EA RA := by intro x P n c k tot hi al i rd; kernel_rfl
theorem kXA : runX EA ZA := by intro x P n c k tot hi al i rd; kernel_rfl
theorem rIA : runI RA RA := by intro x P n c k tot hi al i rd; kernel_rfl
theorem rJA : runJ RA RA := by intro x P n c k tot hi al i rd; kernel_rfl
theorem rXA : runX RA RA := by intro x P n c k tot hi al i rd; kernel_rfl
theorem kIB : runI EB RB := by intro x P n c k tot hi al i rd; kernel_rfl
theorem kJB : runJ EB RB := by intro x P n c k tot hi al i rd; kernel_rfl
theorem kXB : runX EB EB := by intro x P n c k tot hi al i rd; kernel_rfl
theorem rIB : runI RB RB := by intro x P n c k tot hi al i rd; kernel_rfl
theorem rJB : runJ RB RB := by intro x P n c k tot hi al i rd; kernel_rfl
theorem rXB : runX RB RB := by intro x P n c k tot hi al i rd; kernel_rfl
end
end pa
end Go.Proofs.Yteknepfcbpoooab
namespace Go.Proofs.Yteknepfcbpoooab
open Go.ChangeShapes Go.WideShapes Go.ChangeAt Go.RowKit Go.Cln
namespace pa
set_option linter.unusedVariables false
noncomputable section
def good (s0 t : SB) : Prop := ∀ (x : Nest) (P n c k : Nat) (tot0 hi0 tot hi : Int) (al0 al : Bool) (i : Int), picOk (s0 x P n c k tot0 hi0 al0 0) (t x P n c k tot hi al i) [] 13 = true
def heapOk (t : SB) : Prop := ∀ (x : Nest) (P n c k : Nat) (tot hi : Int) (al : Bool) (i : Int), (t x P n c k tot hi al i).heap = Tr.rebuild (H x P n c tot hi al) (t x P n c k tot hi al i).next
def next13 (s : SB) : Prop := ∀ (x : Nest) (P n c k : Nat) (tot hi : Int) (al : Bool) (i : Int), (s x P n c k tot hi al i).next = 13
theorem stI {s0 s t : SB} (hr : runI s t) (hg : good s0 t) (hh : heapOk t) (h13 : next13 s) (h0 : next13 s0) (x : Nest) (P n c k : Nat) (tot0 hi0 tot hi : Int) (al0 al : Bool) (i : Int) (rd : Option Nat) (hp : sr.pI (D0 x P k) (x.m P (ix k)) al i) :
    Step Try.prog rd (s0 x P n c k tot0 hi0 al0 0) bodyI (s x P n c k tot hi al i) (fun e u => e = .normal ∧ u = t x P n c k tot (sr.hi1 (sr.x8 (D0 x P k) i)) (!al) (sr.w1 i)) :=
  Step.std sr.pg (GivenOk.nothing _) (hr x P n c k tot hi al i rd) hp (by rw [h13, h0]; exact Nat.le_refl _) (hh ..) (hg ..)
theorem stJ {s0 s t : SB} (hr : runJ s t) (hg : good s0 t) (hh : heapOk t) (h13 : next13 s) (h0 : next13 s0) (x : Nest) (P n c k : Nat) (tot0 hi0 tot hi : Int) (al0 al : Bool) (i : Int) (rd : Option Nat) (hp : sr.pJ (D0 x P k) (x.m P (ix k)) al i) :
    Step Try.prog rd (s0 x P n c k tot0 hi0 al0 0) bodyI (s x P n c k tot hi al i) (fun e u => e = .normal ∧ u = t x P n c k (sr.tot2 tot hi (sr.x8 (D0 x P k) i)) hi (!al) (sr.w1 i)) :=
  Step.std sr.pg (GivenOk.nothing _) (hr x P n c k tot hi al i rd) hp (by rw [h13, h0]; exact Nat.le_refl _) (hh ..) (hg ..)
theorem stX {s0 s t : SB} (hr : runX s t) (hg : good s0 t) (hh : heapOk t) (h13 : next13 s) (h0 : next13 s0) (x : Nest) (P n c k : Nat) (tot0 hi0 tot hi : Int) (al0 al : Bool) (i : Int) (rd : Option Nat) (hp : True ∧ decide (i < ((x.m P (ix k) : Nat) : Int)) = false) :
    Step Try.prog rd (s0 x P n c k tot0 hi0 al0 0) bodyI (s x P n c k tot hi al i) (fun e u => e = .exit 2 ∧ u = t x P n c k tot hi al i) :=
  Step.std sr.pg (GivenOk.nothing _) (hr x P n c k tot hi al i rd) hp (by rw [h13, h0]; exact Nat.le_refl _) (hh ..) (hg ..)
abbrev T3 := Int × Int × Bool
def one : T3 → Int → T3
  | (tot, hi, false), b => (tot, sr.hi1 b, true)
  | (tot, hi, true), b => (sr.tot2 tot hi b, hi, false)
def many (s : T3) (l : List Int) : T3 := l.foldl one s
theorem many_app (s : T3) (a b : List Int) : many s (a ++ b) = many (many s a) b := List.foldl_append
theorem scan_many (L : List Int) : ∀ (k i : Nat) (tot hi : Int) (al : Bool), i + k ≤ L.length → sr.scan L k i tot hi al = many (tot, hi, al) ((L.drop i).take k)
  | 0, i, tot, hi, al, h => by simp [sr.scan, many]
  | k + 1, i, tot, hi, al, h => by
    rw [sd.drop_take (by omega)]
    cases al with
    | false => exact scan_many L k (i + 1) tot (sr.hi1 (L.getD i 0)) true (by omega)
    | true => exact scan_many L k (i + 1) (sr.tot2 tot hi (L.getD i 0)) hi false (by omega)
structure Ctx (E R Z : SB) : Prop where
  eI : runI E R
  eJ : runJ E R
  eX : runX E Z
  rI : runI R R
  rJ : runJ R R
  rX : runX R R
  gR : good E R
  gZ : good E Z
  hR : heapOk R
  hZ : heapOk Z
  nE : next13 E
  nR : next13 R
theorem loopI {E R Z : SB} (C : Ctx E R Z) (x : Nest) (P n c k : Nat) (tot hi : Int) (al : Bool) (rd : Option Nat) (m : Nat) (hm : x.m P (ix k) = m) (h0 : 0 < m) (hL : m ≤ (D0 x P k).length) (hn : m ≤ 4611686018427387904) :
    CodeOk Try.prog rd (.loop bodyI) (E x P n c k tot hi al 0) (.exit 2) (R x P n c k (sr.scan (D0 x P k) m 0 tot hi al).1 (sr.scan (D0 x P k) m 0 tot hi al).2.1 (sr.scan (D0 x P k) m 0 tot hi al).2.2 m) := by
  refine CodeOk.of_step (Step.loop (fun q s => (q = m + 1 ∧ s = E x P n c k tot hi al 0) ∨ ∃ (j : Nat) (t' h' : Int) (a' : Bool), 1 ≤ j ∧ j ≤ m ∧ q = m - j ∧ s = R x P n c k t' h' a' j ∧ sr.scan (D0 x P k) (m - j) j t' h' a' = sr.scan (D0 x P k) m 0 tot hi al) ?_ (m + 1) _ (.inl ⟨rfl, rfl⟩))
  rintro q s (⟨rfl, rfl⟩ | ⟨j, t', h', a', h1, h2, rfl, rfl, h3⟩)
  · obtain ⟨u, rfl⟩ : ∃ u, m = u + 1 := ⟨m - 1, by omega⟩
    cases al with
    | false =>
      refine (stI C.eI C.gR C.hR C.nE C.nE x P n c k tot hi tot hi false false ((0 : Nat) : Int) rd (by rw [hm]; exact sr.pI_ok h0 hL)).mono ?_
      rintro e s ⟨rfl, rfl⟩
      refine .inl ⟨rfl, u + 1 - 1, by omega, .inr ⟨1, tot, sr.hi1 ((D0 x P k).getD 0 0), true, Nat.le_refl _, h0, rfl, ?_, ?_⟩⟩
      · rw [sr.w1_eq h0 hn, sr.x8_eq]; rfl
      · simp only [sr.scan, Nat.add_sub_cancel, Nat.zero_add]
    | true =>
      refine (stJ C.eJ C.gR C.hR C.nE C.nE x P n c k tot hi tot hi true true ((0 : Nat) : Int) rd (by rw [hm]; exact sr.pJ_ok h0 hL)).mono ?_
      rintro e s ⟨rfl, rfl⟩
      refine .inl ⟨rfl, u + 1 - 1, by omega, .inr ⟨1, sr.tot2 tot hi ((D0 x P k).getD 0 0), hi, false, Nat.le_refl _, h0, rfl, ?_, ?_⟩⟩
      · rw [sr.w1_eq h0 hn, sr.x8_eq]; rfl
      · simp only [sr.scan, Nat.add_sub_cancel, Nat.zero_add]
  · by_cases e : j = m
    · subst e
      refine (stX C.rX C.gR C.hR C.nR C.nE x P n c k tot hi t' h' al a' (j : Int) rd ⟨trivial, by rw [decide_eq_false_iff_not]; omega⟩).mono ?_
      rintro e s ⟨rfl, rfl⟩
      refine .inr ⟨(by intro x; cases x), rfl, ?_⟩
      rw [← h3, Nat.sub_self]; rfl
    · have hlt : j < m := by omega
      have e1 : m - j = (m - (j + 1)) + 1 := by omega
      cases a' with
      | false =>
        refine (stI C.rI C.gR C.hR C.nR C.nE x P n c k tot hi t' h' al false (j : Int) rd (by rw [hm]; exact sr.pI_ok hlt hL)).mono ?_
        rintro e s ⟨rfl, rfl⟩
        refine .inl ⟨rfl, m - (j + 1), by omega, .inr ⟨j + 1, t', sr.hi1 ((D0 x P k).getD j 0), true, by omega, by omega, rfl, ?_, ?_⟩⟩
        · rw [sr.w1_eq hlt hn, sr.x8_eq]; rfl
        · rw [← h3, e1]; rfl
      | true =>
        refine (stJ C.rJ C.gR C.hR C.nR C.nE x P n c k tot hi t' h' al true (j : Int) rd (by rw [hm]; exact sr.pJ_ok hlt hL)).mono ?_
        rintro e s ⟨rfl, rfl⟩
        refine .inl ⟨rfl, m - (j + 1), by omega, .inr ⟨j + 1, sr.tot2 t' h' ((D0 x P k).getD j 0), h', false, by omega, by omega, rfl, ?_, ?_⟩⟩
        · rw [sr.w1_eq hlt hn, sr.x8_eq]; rfl
        · rw [← h3, e1]; rfl
theorem loopZ {E R Z : SB} (C : Ctx E R Z) (x : Nest) (P n c k : Nat) (tot hi : Int) (al : Bool) (rd : Option Nat) (hm : x.m P (ix k) = 0) :
    CodeOk Try.prog rd (.loop bodyI) (E x P n c k tot hi al 0) (.exit 2) (Z x P n c k tot hi al 0) := by
  refine CodeOk.of_step (Step.loop (fun q s => s = E x P n c k tot hi al 0) ?_ 0 _ rfl)
  rintro q s rfl
  refine (stX C.eX C.gZ C.hZ C.nE C.nE x P n c k tot hi tot hi al al 0 rd ⟨trivial, by rw [hm, decide_eq_false_iff_not]; omega⟩).mono ?_
  rintro e s ⟨rfl, rfl⟩
  exact .inr ⟨(by intro x; cases x), rfl, rfl⟩
theorem cA : Ctx EA RA ZA := ⟨kIA, kJA, kXA, rIA, rJA, rXA, by intro x P n c k t0 h0 tot hi a0 al i; kernel_rfl, by intro x P n c k t0 h0 tot hi a0 al i; kernel_rfl, by intro x P n c k tot hi al i; rfl, by intro x P n c k tot hi al i; rfl, by intro x P n c k tot hi al i; rfl, by intro x P n c k tot hi al i; rfl⟩
theorem cB : Ctx EB RB EB := ⟨kIB, kJB, kXB, rIB, rJB, rXB, by intro x P n c k t0 h0 tot hi a0 al i; kernel_rfl, by intro x P n c k t0 h0 tot hi a0 al i; kernel_rfl, by intro x P n c k tot hi al i; rfl, by intro x P n c k tot hi al i; rfl, by intro x P n c k tot hi al i; rfl, by intro x P n c k tot hi al i; rfl⟩
theorem cC : Ctx RB RB RB := ⟨rIB, rJB, rXB, rIB, rJB, rXB, by intro x P n c k t0 h0 tot hi a0 al i; kernel_rfl, by intro x P n c k t0 h0 tot hi a0 al i; kernel_rfl, by intro x P n c k tot hi al i; rfl, by intro x P n c k tot hi al i; rfl, by intro x P n c k tot hi al i; rfl, by intro x P n c k tot hi al i; rfl⟩
end
end pa
end Go.Proofs.Yteknepfcbpoooab
namespace Go.Proofs.Yteknepfcbpoooab
open Go.ChangeShapes Go.WideShapes Go.ChangeAt Go.RowKit Go.Cln
namespace pa
set_option linter.unusedVariables false
noncomputable section
def oS (t4 t6 : Value) (T : List Value) (x : Nest) (P n c : Nat) (tot hi : Int) (al : Bool) (k : Nat) : St :=
  ⟨[.func (.yield 12) #[] #[], .pointer (some ⟨10, 0, none⟩), undef, undef, t4, undef, t6, S P n c, .int .i64 (nI n), .int .i64 (nI k)] ++ T, [], Tr.rebuild (H x P n c tot hi al) 13, 13, 1, [], fun _ => false, True, []⟩
abbrev SO := (x : Nest) → (P n c : Nat) → (tot hi : Int) → (al : Bool) → (k : Nat) → St
def OE : SO := oS undef undef (U 15)
def OU : SO := oS junk undef (J 7 ++ (U 7 ++ J 1))
def OJ : SO := oS junk junk (J 15)
def bodyO : Code := loopB Try.prog 43 0
def K0 : Given := { Given.nothing with fits := true }
theorem K0_ok : GivenOk Try.prog K0 := frames_fits (GivenOk.nothing _) true
def L43 (t : St) (f : FuncId) (c : Code) (s : St) : Option Ask2 := if f == 43 then some ⟨⟨[], [], [], []⟩, .exit 2, fun _ => t⟩ else none
def KI (t : St) : Given := Given.asking2 K0 Try.prog (L43 t)
theorem KI_ok (t : St) : GivenOk Try.prog (KI t) := K0_ok.asking2 _
def goO (t : St) (s : St) (rd : Option Nat) (o : List (Option Bool)) (u : St) : Option (Exit × Prop × Seen) := ((mk Try.prog (KI t) 200).code 43 rd bodyO { s with obl := True, orc := o }).map (fun r => (r.1, r.2.obl, seenIn r.2 u []))
def pK (x : Nest) (P n k : Nat) : Prop := ((True ∧ decide (nI k < nI n) = true) ∧ (0 ≤ nI k ∧ nI k < nI n)) ∧ ix k < x.N P
def fk (k : Nat) : Prop := IntKind.i64.wrap (nI k + 1) = nI k + 1
def oK : List (Option Bool) := [some true, some true, some true, some true]
def runO (s u : SO) (e t : SB) (i : Nat → Int) : Prop := ∀ (x : Nest) (P n c k : Nat) (tot hi : Int) (al : Bool) (tot' hi' : Int) (al' : Bool) (m : Nat) (rd : Option Nat),
  goO (t x P n c k tot' hi' al' (i m)) (s x P n c tot hi al k) rd oK (u x P n c tot' hi' al' (k + 1)) =
    some (.normal, (pK x P n k ∧ ∀ rd, CodeOk Try.prog rd (.loop bodyI) (e x P n c k tot hi al 0) (.exit 2) (t x P n c k tot' hi' al' (i m))) ∧ fk k, seenAs (u x P n c tot' hi' al' (k + 1)) [] 13)
def runOX (s : SO) : Prop := ∀ (x : Nest) (P n c k : Nat) (tot hi : Int) (al : Bool) (t : St) (rd : Option Nat), goO t (s x P n c tot hi al k) rd [some false] (s x P n c tot hi al k) =
    some (.exit 0, True ∧ decide (nI k < nI n) = false, seenAs (s x P n c tot hi al k) [] 13)
theorem oEU : runO OE OU EA ZA (fun _ => 0) := by intro x P n c k tot hi al t' h' a' m rd; kernel_rfl
theorem oEJ : runO OE OJ EA RA (fun m => (m : Int)) := by intro x P n c k tot hi al t' h' a' m rd; kernel_rfl
theorem oUU : runO OU OU EB EB (fun _ => 0) := by intro x P n c k tot hi al t' h' a' m rd; kernel_rfl
theorem oUJ : runO OU OJ EB RB (fun m => (m : Int)) := by intro x P n c k tot hi al t' h' a' m rd; kernel_rfl
theorem oJZ : runO OJ OJ RB RB (fun _ => 0) := by intro x P n c k tot hi al t' h' a' m rd; kernel_rfl
theorem oJJ : runO OJ OJ RB RB (fun m => (m : Int)) := by intro x P n c k tot hi al t' h' a' m rd; kernel_rfl
theorem oUX : runOX OU := by intro x P n c k tot hi al t rd; kernel_rfl
theorem oJX : runOX OJ := by intro x P n c k tot hi al t rd; kernel_rfl
end
end pa
end Go.Proofs.Yteknepfcbpoooab
namespace Go.Proofs.Yteknepfcbpoooab
open Go.ChangeShapes Go.WideShapes Go.ChangeAt Go.RowKit Go.Cln
namespace pa
set_option linter.unusedVariables false
noncomputable section
def OX : SO := oS undef undef (J 1 ++ U 14)
theorem oEX (x : Nest) (P n c k : Nat) (tot hi : Int) (al : Bool) (t : St) (rd : Option Nat) : goO t (OE x P n c tot hi al k) rd [some false] (OX x P n c tot hi al k) =
    some (.exit 0, True ∧ decide (nI k < nI n) = false, seenAs (OX x P n c tot hi al k) [] 13) := by kernel_rfl
def goodO (u : SO) : Prop := ∀ (x : Nest) (P n c k : Nat) (tot hi : Int) (al : Bool), picOk (OE x P n c 0 0 false 0) (u x P n c tot hi al k) [] 13 = true
def heapO (u : SO) : Prop := ∀ (x : Nest) (P n c k : Nat) (tot hi : Int) (al : Bool), (u x P n c tot hi al k).heap = Tr.rebuild (H x P n c tot hi al) (u x P n c tot hi al k).next
def nextO (s : SO) : Prop := ∀ (x : Nest) (P n c k : Nat) (tot hi : Int) (al : Bool), (s x P n c tot hi al k).next = 13
structure OkO (s : SO) : Prop where
  g : goodO s
  h : heapO s
  n : nextO s
theorem okE : OkO OE := ⟨by intro x P n c k tot hi al; kernel_rfl, by intro x P n c k tot hi al; rfl, by intro x P n c k tot hi al; rfl⟩
theorem okU : OkO OU := ⟨by intro x P n c k tot hi al; kernel_rfl, by intro x P n c k tot hi al; rfl, by intro x P n c k tot hi al; rfl⟩
theorem okJ : OkO OJ := ⟨by intro x P n c k tot hi al; kernel_rfl, by intro x P n c k tot hi al; rfl, by intro x P n c k tot hi al; rfl⟩
theorem stO {s u : SO} {e t : SB} {i : Nat → Int} (hr : runO s u e t i) (hs : OkO s) (hu : OkO u) {x : Nest} {P n c k : Nat} {tot hi : Int} {al : Bool} {tot' hi' : Int} {al' : Bool} {m : Nat} (rd : Option Nat) (hp : pK x P n k)
    (hl : ∀ rd, CodeOk Try.prog rd (.loop bodyI) (e x P n c k tot hi al 0) (.exit 2) (t x P n c k tot' hi' al' (i m))) (hf : fk k) :
    Step Try.prog rd (OE x P n c 0 0 false 0) bodyO (s x P n c tot hi al k) (fun e' v => e' = .normal ∧ v = u x P n c tot' hi' al' (k + 1)) :=
  Step.std sr.pg (KI_ok _) (hr x P n c k tot hi al tot' hi' al' m rd) ⟨⟨hp, hl⟩, hf⟩ (by rw [hs.n]; exact Nat.le_refl 13) (hu.h ..) (hu.g ..)
theorem stOX {s : SO} (hr : runOX s) (hs : OkO s) {x : Nest} {P n c k : Nat} {tot hi : Int} {al : Bool} (rd : Option Nat) (hk : n ≤ k) :
    Step Try.prog rd (OE x P n c 0 0 false 0) bodyO (s x P n c tot hi al k) (fun e' v => e' = .exit 0 ∧ v = s x P n c tot hi al k) :=
  Step.std sr.pg (KI_ok (OE x P n c 0 0 false 0)) (hr x P n c k tot hi al _ rd) ⟨trivial, by simp only [nI, decide_eq_false_iff_not]; omega⟩ (by rw [hs.n]; exact Nat.le_refl 13) (hs.h ..) (hs.g ..)
def tri (x : Nest) (P k : Nat) : T3 := many (0, 0, false) (x.cat P k)
theorem tri_succ (x : Nest) (P k : Nat) : tri x P (k + 1) = many (tri x P k) (x.row P k) := many_app ..
theorem ix_eq (k : Nat) : ix k = k := by unfold ix; omega
def oSt (x : Nest) (P n c k : Nat) : St := match x.cat P k, k with
  | [], 0 => OE x P n c 0 0 false 0
  | [], k + 1 => OU x P n c 0 0 false (k + 1)
  | _ :: _, k => OJ x P n c (tri x P k).1 (tri x P k).2.1 (tri x P k).2.2 k
theorem oSt_nil {x : Nest} {P n c k : Nat} (h : x.cat P (k + 1) = []) : oSt x P n c (k + 1) = OU x P n c 0 0 false (k + 1) := by unfold oSt; rw [h]
theorem oSt_cons {x : Nest} {P n c k : Nat} (h : x.cat P k ≠ []) : oSt x P n c k = OJ x P n c (tri x P k).1 (tri x P k).2.1 (tri x P k).2.2 k := by
  unfold oSt
  cases e : x.cat P k with
  | nil => exact absurd e h
  | cons a l => rfl
theorem tri_nil {x : Nest} {P k : Nat} (h : x.cat P k = []) : tri x P k = (0, 0, false) := by unfold tri; rw [h]; rfl
theorem inner {E R Z : SB} (C : Ctx E R Z) {x : Nest} {P n c k : Nat} (h : x.Ok P) (hk : k < x.N P) (hm : x.m P k ≤ 1000) (h0 : 0 < x.m P k) (t : T3) (rd : Option Nat) :
    CodeOk Try.prog rd (.loop bodyI) (E x P n c k t.1 t.2.1 t.2.2 0) (.exit 2) (R x P n c k (many t (x.row P k)).1 (many t (x.row P k)).2.1 (many t (x.row P k)).2.2 (x.m P k : Nat)) := by
  have hr : (x.row P k).length = x.m P k := h.len k hk
  have hD : x.m P k ≤ (D0 x P k).length := by
    unfold Nest.row at hr
    rw [List.drop_zero, List.length_take] at hr
    unfold D0; rw [ix_eq]; omega
  have := loopI C x P n c k t.1 t.2.1 t.2.2 rd (x.m P k) (by rw [ix_eq]) h0 hD (by omega)
  have e : sr.scan (D0 x P k) (x.m P k) 0 t.1 t.2.1 t.2.2 = many t (x.row P k) := by
    rw [scan_many _ _ _ _ _ _ (by omega)]
    unfold D0 Nest.row; rw [ix_eq]
  rw [e] at this
  exact this
theorem innerZ {E R Z : SB} (C : Ctx E R Z) {x : Nest} {P n c k : Nat} (h0 : x.m P k = 0) (t : T3) (rd : Option Nat) :
    CodeOk Try.prog rd (.loop bodyI) (E x P n c k t.1 t.2.1 t.2.2 0) (.exit 2) (Z x P n c k t.1 t.2.1 t.2.2 0) :=
  loopZ C x P n c k t.1 t.2.1 t.2.2 rd (by rw [ix_eq]; exact h0)
theorem stepO {x : Nest} {P n c k : Nat} (h : x.Ok P) (hn : n ≤ x.N P) (h30 : n ≤ 30) (hk : k < n) (hm : x.m P k ≤ 1000) (rd : Option Nat) :
    Step Try.prog rd (OE x P n c 0 0 false 0) bodyO (oSt x P n c k) (fun e t => e = .normal ∧ t = oSt x P n c (k + 1)) := by
  have hp : pK x P n k := by
    unfold pK; rw [ix_eq]; simp only [nI, decide_eq_true_eq]
    exact ⟨⟨⟨trivial, by omega⟩, by omega⟩, by omega⟩
  have hf : fk k := by unfold fk; simp only [nI]; rw [IntKind.wrap_i64]; omega
  have hr : (x.row P k).length = x.m P k := h.len k (by omega)
  have ec : x.cat P (k + 1) = x.cat P k ++ x.row P k := rfl
  have et := tri_succ x P k
  by_cases h0 : x.cat P k = []
  · have e0 := tri_nil h0
    by_cases hz : x.m P k = 0
    · have er : x.row P k = [] := List.eq_nil_of_length_eq_zero (by omega)
      rw [oSt_nil (by rw [ec, h0, er]; rfl)]
      cases k with
      | zero => exact stO (i := fun _ => 0) (m := 0) oEU okE okU rd hp (fun rd => innerZ cA hz (0, 0, false) rd) hf
      | succ k =>
        rw [oSt_nil h0]
        exact stO (i := fun _ => 0) (m := 0) oUU okU okU rd hp (fun rd => innerZ cB hz (0, 0, false) rd) hf
    · have er : x.cat P (k + 1) ≠ [] := by
        rw [ec, h0, List.nil_append]
        intro hh; rw [hh] at hr; exact hz hr.symm
      rw [oSt_cons er, et, e0]
      cases k with
      | zero => exact stO (i := fun m => (m : Int)) (m := x.m P 0) oEJ okE okJ rd hp (fun rd => inner cA h (by omega) hm (by omega) (0, 0, false) rd) hf
      | succ k =>
        rw [oSt_nil h0]
        exact stO (i := fun m => (m : Int)) (m := x.m P (k + 1)) oUJ okU okJ rd hp (fun rd => inner cB h (by omega) hm (by omega) (0, 0, false) rd) hf
  · have er : x.cat P (k + 1) ≠ [] := by
      rw [ec]; intro hh; exact h0 (List.append_eq_nil_iff.1 hh).1
    rw [oSt_cons h0, oSt_cons er, et]
    by_cases hz : x.m P k = 0
    · have e1 : x.row P k = [] := List.eq_nil_of_length_eq_zero (by omega)
      rw [e1]
      exact stO (i := fun _ => 0) (m := 0) oJZ okJ okJ rd hp (fun rd => innerZ cC hz (tri x P k) rd) hf
    · exact stO (i := fun m => (m : Int)) (m := x.m P k) oJJ okJ okJ rd hp (fun rd => inner cC h (by omega) hm (by omega) (tri x P k) rd) hf
theorem loopE {x : Nest} {P c : Nat} (rd : Option Nat) : CodeOk Try.prog rd (.loop bodyO) (OE x P 0 c 0 0 false 0) (.exit 0) (OX x P 0 c 0 0 false 0) := by
  refine CodeOk.of_step (Step.loop (fun g t => t = OE x P 0 c 0 0 false 0) ?_ 0 _ rfl)
  rintro g t rfl
  refine (Step.std sr.pg (KI_ok (OE x P 0 c 0 0 false 0)) (oEX x P 0 c 0 0 0 false _ rd) ⟨trivial, by simp only [nI, decide_eq_false_iff_not]; omega⟩ (Nat.le_refl 13) (g := H x P 0 c 0 0 false) rfl (by kernel_rfl)).mono ?_
  rintro e' t ⟨rfl, rfl⟩
  exact .inr ⟨(by intro x; cases x), rfl, rfl⟩
theorem loopO {x : Nest} {P n c : Nat} (h : x.Ok P) (hn : n ≤ x.N P) (h30 : n ≤ 30) (h0 : 0 < n) (hm : ∀ i, i < n → x.m P i ≤ 1000) (rd : Option Nat) :
    CodeOk Try.prog rd (.loop bodyO) (OE x P n c 0 0 false 0) (.exit 0) (oSt x P n c n) := by
  refine CodeOk.of_step (Step.loop (fun g t => ∃ j, j ≤ n ∧ g = n - j ∧ t = oSt x P n c j) ?_ n _ ⟨0, by omega, by omega, rfl⟩)
  rintro g t ⟨j, g2, rfl, rfl⟩
  by_cases hj : j = n
  · subst hj
    have key : Step Try.prog rd (OE x P j c 0 0 false 0) bodyO (oSt x P j c j) (fun e t => e = .exit 0 ∧ t = oSt x P j c j) := by
      unfold oSt
      split
      · omega
      · exact stOX oUX okU rd (by omega)
      · exact stOX oJX okJ rd (by omega)
    refine key.mono ?_
    rintro e' t ⟨rfl, rfl⟩
    exact .inr ⟨(by intro x; cases x), rfl, rfl⟩
  · refine (stepO h hn h30 (by omega) (hm j (by omega)) rd).mono ?_
    rintro e' t ⟨rfl, rfl⟩
    exact .inl ⟨rfl, n - (j + 1), by omega, j + 1, by omega, rfl, rfl⟩
end
end pa
end Go.Proofs.Yteknepfcbpoooab
namespace Go.Proofs.Yteknepfcbpoooab
open Go.ChangeShapes Go.WideShapes Go.ChangeAt Go.RowKit Go.Cln
namespace pa
open sd
set_option linter.unusedVariables false
noncomputable section
def askR (t : St) (f : FuncId) (c : Code) (s : St) : Option Ask2 := if f == 43 then some ⟨⟨[], [], [], []⟩, .exit 0, fun _ => t⟩ else none
def KRw (t : St) : Given := Given.frames (Given.asking2 Given.nothing Try.prog (askR t)) F33
theorem KRw_ok (t : St) : GivenOk Try.prog (KRw t) := K33 (GivenOk.asking2 (GivenOk.nothing _) _)
def hZ (x : Nest) : List (Option Ob) := some (.fam x.F) :: nones 12
def kZ : List Bool := true :: List.replicate 12 false
def callR (x : Nest) (P n c : Nat) (t : St) (o : List (Option Bool)) : Option (Value × Prop × Nat × List (Option Ob)) := ((mk Try.prog (KRw t) 200).call 12 [S P n c] (smSt 1 [some (.fam x.F)] o)).map (fun r => (r.1, r.2.obl, r.2.next, keepL kZ r.2.heap.get 0))
def tt2 (tot hi : Int) : Int := IntKind.u64.wrap (tot + IntKind.u64.wrap hi)
def runRF (u : SO) : Prop := ∀ (x : Nest) (P n c k : Nat) (tot hi : Int) (al : Bool), callR x P n c (u x P n c tot hi al k) [some false] =
  some (.int .u16 (sc.car tot), (((True ∧ ∀ rd, CodeOk Try.prog rd (.loop bodyO) (OE x P n c 0 0 false 0) (.exit 0) (u x P n c tot hi al k)) ∧ al = false) ∧ (0 ≤ tot ∧ tot < 18446744073709551616)), (hZ x).length, hZ x)
theorem rEF : runRF OX := by intro x P n c k tot hi al; kernel_rfl
theorem rUF : runRF OU := by intro x P n c k tot hi al; kernel_rfl
theorem rJF : runRF OJ := by intro x P n c k tot hi al; kernel_rfl
theorem rJT (x : Nest) (P n c k : Nat) (tot hi : Int) (al : Bool) : callR x P n c (OJ x P n c tot hi al k) [some true] =
  some (.int .u16 (sc.car (tt2 tot hi)), (((True ∧ ∀ rd, CodeOk Try.prog rd (.loop bodyO) (OE x P n c 0 0 false 0) (.exit 0) (OJ x P n c tot hi al k)) ∧ al = true) ∧ (0 ≤ tt2 tot hi ∧ tt2 tot hi < 18446744073709551616)), (hZ x).length, hZ x) := by kernel_rfl
def rawN (l : List Int) : Int := sc.car (wsum l)
theorem tri_eq {x : Nest} {P n : Nat} (h : x.Ok P) (hn : n ≤ x.N P) (hl : (x.cat P n).length ≤ 1099511627776) :
    (rt (tri x P n) = wsum (x.cat P n)) ∧ ((tri x P n).2.2 = false → (tri x P n).1 = wsum (x.cat P n)) ∧ ((tri x P n).2.2 = true → 0 ≤ (tri x P n).2.1 ∧ (tri x P n).2.1 < 65536 ∧ 0 ≤ (tri x P n).1) := by
  obtain ⟨s1, s2, s3⟩ := (scan_eq (L := x.cat P n) (Nest.cat_byte h n hn) (x.cat P n).length 0 (by omega) 0 (by omega) (by omega)).1 0
  rw [scan_many _ _ _ _ _ _ (by omega), List.drop_zero, List.take_length, Int.zero_add] at s1 s2
  rw [scan_many _ _ _ _ _ _ (by omega), List.drop_zero, List.take_length] at s3
  exact ⟨s1, s2, s3⟩
theorem rawP {x : Nest} {P n c : Nat} (h : x.Ok P) (hn : n ≤ x.N P) (h30 : n ≤ 30) (hm : ∀ i, i < n → x.m P i ≤ 1000) :
    CallOk Try.prog 12 [S P n c] (smSt 1 [some (.fam x.F)] []) (.int .u16 (rawN (x.cat P n))) (smSt 1 (hZ x) []) := by
  have hl := Nest.cat_len (B := 1000) h n hn hm
  obtain ⟨s1, s2, s3⟩ := tri_eq h hn (by omega)
  have hb := wsum_bound (x.cat P n) (Nest.cat_byte h n hn)
  by_cases h0 : n = 0
  · subst h0
    exact frame_by sr.pg (KRw_ok _) kZ (rEF x P 0 c 0 0 0 false) ⟨⟨⟨trivial, fun rd => loopE rd⟩, rfl⟩, by omega⟩ (by rfl) rfl
  · have lp := fun rd => loopO (c := c) h hn h30 (by omega) hm rd
    by_cases he : x.cat P n = []
    · obtain ⟨k, rfl⟩ : ∃ k, n = k + 1 := ⟨n - 1, by omega⟩
      rw [oSt_nil he] at lp
      rw [he]
      exact frame_by sr.pg (KRw_ok _) kZ (rUF x P (k + 1) c (k + 1) 0 0 false) ⟨⟨⟨trivial, lp⟩, rfl⟩, by omega⟩ (by rfl) rfl
    · rw [oSt_cons he] at lp
      cases hal : (tri x P n).2.2 with
      | false =>
        have e := s2 hal
        have := frame_by sr.pg (KRw_ok _) kZ (rJF x P n c n (tri x P n).1 (tri x P n).2.1 (tri x P n).2.2) ⟨⟨⟨trivial, lp⟩, hal⟩, by rw [e]; omega⟩ (by rfl) rfl
        rw [e] at this; exact this
      | true =>
        obtain ⟨q1, q2, q3⟩ := s3 hal
        have e : tt2 (tri x P n).1 (tri x P n).2.1 = wsum (x.cat P n) := by
          unfold rt at s1
          rw [hal, if_pos rfl] at s1
          unfold tt2
          rw [IntKind.wrap_u64, IntKind.wrap_u64]; omega
        have := frame_by sr.pg (KRw_ok _) kZ (rJT x P n c n (tri x P n).1 (tri x P n).2.1 (tri x P n).2.2) ⟨⟨⟨trivial, lp⟩, hal⟩, by rw [e]; omega⟩ (by rfl) rfl
        rw [e] at this; exact this
end
end pa
end Go.Proofs.Yteknepfcbpoooab
namespace Go.Proofs.Yteknepfcbpoooab
open Go.ChangeShapes Go.WideShapes Go.ChangeAt Go.RowKit Go.Cln
namespace pb
open pa (S ix ix_eq K0 K0_ok fk)
set_option linter.unusedVariables false
noncomputable section
def lb : Code := loopB Try.prog 10 0
def nul : Value := .slice none 0 0
def hd (P n c : Nat) (all : Value) (k : Int) : List Value := [S P n c, undef, nul, .bool false, all, .int .i64 k, S P n c, .int .i64 (nI n), .bool false]
def HN (x : Nest) : Nat → Option Ob := fun i => match i with
  | 0 => some (.fam x.F)
  | _ => none
def HA (x : Nest) (L : List Int) : Nat → Option Ob := fun i => match i with
  | 0 => some (.fam x.F)
  | 1 => some (.cells (.ints .u8 L) 5)
  | _ => none
def lE (x : Nest) (P n c : Nat) : St := ⟨hd P n c nul 0 ++ U 19, [], Tr.rebuild (HN x) 1, 1, 1, [], fun _ => false, True, []⟩
def lN (x : Nest) (P n c k : Nat) : St := ⟨hd P n c nul (nI k) ++ (J 18 ++ U 1), [], Tr.rebuild (HN x) 1, 1, 1, [], fun _ => false, True, []⟩
def lR (x : Nest) (P n c k : Nat) (L : List Int) (a q : Nat) : St := ⟨hd P n c (.slice (some ⟨1, 0, some 1⟩) a q) (nI k) ++ (J 18 ++ U 1), [], Tr.rebuild (HA x L) 2, 2, 1, [], fun _ => false, True, []⟩
def row0 (x : Nest) (P k : Nat) : List Int := x.row P (ix k)
def len0 (x : Nest) (P k : Nat) : Nat := x.m P (ix k)
def pA (x : Nest) (P n k : Nat) : Prop := (((((True ∧ decide (nI k < nI n) = true) ∧ (0 ≤ nI k ∧ nI k < nI n)) ∧ ix k < x.N P) ∧ decide (nI (len0 x P k) > 300) = false) ∧ (0 ≤ nI k ∧ nI k < nI n)) ∧ ix k < x.N P
def q1 (x : Nest) (P k : Nat) : Prop := len0 x P k = 0 ∨ 0 + len0 x P k ≤ (x.D (x.Q P (ix k))).length
def pN0 (x : Nest) (P n k : Nat) : Prop := ((pA x P n k ∧ decide (len0 x P k = 0) = true) ∧ ((0 : Nat) = 0 ∧ (0 : Nat) = 0 ∧ q1 x P k)) ∧ fk k
def pN1 (x : Nest) (P n k : Nat) : Prop := ((pA x P n k ∧ decide (len0 x P k = 0) = false) ∧ ((0 : Nat) = 0 ∧ (0 : Nat) = 0 ∧ q1 x P k ∧ len0 x P k * 1 ≤ mostBytes ∧ len0 x P k ≤ mostBytes)) ∧ fk k
def pR0 (x : Nest) (P n k : Nat) (L : List Int) (a q : Nat) : Prop := ((pA x P n k ∧ decide (a + len0 x P k ≤ q) = true) ∧ (q1 x P k ∧ 0 + a + len0 x P k ≤ L.length)) ∧ fk k
def pR1 (x : Nest) (P n k : Nat) (L : List Int) (a q : Nat) : Prop := ((pA x P n k ∧ decide (a + len0 x P k ≤ q) = false) ∧ (q1 x P k ∧ 0 + a ≤ L.length ∧ (a + len0 x P k) * 1 ≤ mostBytes ∧ a + len0 x P k ≤ mostBytes)) ∧ fk k
def oA (b : Bool) : List (Option Bool) := [some true, some true, some true, some false, some true, some true, some b, some true]
def go (x : Nest) (s : St) (rd : Option Nat) (o : List (Option Bool)) (t : St) (σ : List Nat) : Option (Exit × Prop × Seen) := ((mk Try.prog K0 200).code 10 rd lb { s with obl := True, orc := o }).map (fun r => (r.1, r.2.obl, seenIn r.2 t σ))
def g0 (L : List Int) (a : Nat) (r : List Int) : List Int := layI L (0 + a) r
def g1 (L : List Int) (a : Nat) (r : List Int) : List Int := (L.drop 0).take a ++ r
theorem kEN (x : Nest) (P n c : Nat) (rd : Option Nat) : go x (lE x P n c) rd (oA true) (lN x P n c (0 + 1)) [] = some (.normal, pN0 x P n 0, seenAs (lN x P n c (0 + 1)) [] 1) := by kernel_rfl
theorem kER (x : Nest) (P n c : Nat) (rd : Option Nat) : go x (lE x P n c) rd (oA false) (lR x P n c (0 + 1) (row0 x P 0) (len0 x P 0) (len0 x P 0)) [] = some (.normal, pN1 x P n 0, seenAs (lR x P n c (0 + 1) (row0 x P 0) (len0 x P 0) (len0 x P 0)) [] 2) := by kernel_rfl
theorem kNN (x : Nest) (P n c k : Nat) (rd : Option Nat) : go x (lN x P n c k) rd (oA true) (lN x P n c (k + 1)) [] = some (.normal, pN0 x P n k, seenAs (lN x P n c (k + 1)) [] 1) := by kernel_rfl
theorem kNR (x : Nest) (P n c k : Nat) (rd : Option Nat) : go x (lN x P n c k) rd (oA false) (lR x P n c (k + 1) (row0 x P k) (len0 x P k) (len0 x P k)) [] = some (.normal, pN1 x P n k, seenAs (lR x P n c (k + 1) (row0 x P k) (len0 x P k) (len0 x P k)) [] 2) := by kernel_rfl
theorem kR0 (x : Nest) (P n c k : Nat) (L : List Int) (a q : Nat) (rd : Option Nat) : go x (lR x P n c k L a q) rd (oA true) (lR x P n c (k + 1) (g0 L a (row0 x P k)) (a + len0 x P k) q) [] = some (.normal, pR0 x P n k L a q, seenAs (lR x P n c (k + 1) (g0 L a (row0 x P k)) (a + len0 x P k) q) [] 2) := by kernel_rfl
theorem kR1 (x : Nest) (P n c k : Nat) (L : List Int) (a q : Nat) (rd : Option Nat) : go x (lR x P n c k L a q) rd (oA false) (lR x P n c (k + 1) (g1 L a (row0 x P k)) (a + len0 x P k) (a + len0 x P k)) [0, 2] = some (.normal, pR1 x P n k L a q, seenAs (lR x P n c (k + 1) (g1 L a (row0 x P k)) (a + len0 x P k) (a + len0 x P k)) [0, 2] 3) := by kernel_rfl
theorem st {x : Nest} {P n c n1 : Nat} {rd : Option Nat} {s t : St} {o : List (Option Bool)} {σ : List Nat} {e : Exit} {p : Prop} {g : Nat → Option Ob} (hr : go x s rd o t σ = some (e, p, seenAs t σ n1)) (hp : p) (hs : 1 ≤ s.next)
    (hh : t.heap = Tr.rebuild g t.next) (hk : picOk (lE x P n c) t σ n1 = true) : Step Try.prog rd (lE x P n c) lb s (fun e' t' => e' = e ∧ t' = t) :=
  Step.std sr.pg (K0_ok) hr hp hs hh hk
theorem sEN {x : Nest} {P n c : Nat} (rd : Option Nat) (hp : pN0 x P n 0) : Step Try.prog rd (lE x P n c) lb (lE x P n c) (fun e t => e = .normal ∧ t = lN x P n c (0 + 1)) := st (kEN x P n c rd) hp (show 1 ≤ 1 by decide) (g := HN x) rfl (by kernel_rfl)
theorem sER {x : Nest} {P n c : Nat} (rd : Option Nat) (hp : pN1 x P n 0) : Step Try.prog rd (lE x P n c) lb (lE x P n c) (fun e t => e = .normal ∧ t = lR x P n c (0 + 1) (row0 x P 0) (len0 x P 0) (len0 x P 0)) := st (kER x P n c rd) hp (show 1 ≤ 1 by decide) (g := HA x (row0 x P 0)) rfl (by kernel_rfl)
theorem sNN {x : Nest} {P n c k : Nat} (rd : Option Nat) (hp : pN0 x P n k) : Step Try.prog rd (lE x P n c) lb (lN x P n c k) (fun e t => e = .normal ∧ t = lN x P n c (k + 1)) := st (kNN x P n c k rd) hp (show 1 ≤ 1 by decide) (g := HN x) rfl (by kernel_rfl)
theorem sNR {x : Nest} {P n c k : Nat} (rd : Option Nat) (hp : pN1 x P n k) : Step Try.prog rd (lE x P n c) lb (lN x P n c k) (fun e t => e = .normal ∧ t = lR x P n c (k + 1) (row0 x P k) (len0 x P k) (len0 x P k)) := st (kNR x P n c k rd) hp (show 1 ≤ 1 by decide) (g := HA x (row0 x P k)) rfl (by kernel_rfl)
theorem sR0 {x : Nest} {P n c k : Nat} {L : List Int} {a q : Nat} (rd : Option Nat) (hp : pR0 x P n k L a q) : Step Try.prog rd (lE x P n c) lb (lR x P n c k L a q) (fun e t => e = .normal ∧ t = lR x P n c (k + 1) (g0 L a (row0 x P k)) (a + len0 x P k) q) := st (kR0 x P n c k L a q rd) hp (show 1 ≤ 2 by decide) (g := HA x (g0 L a (row0 x P k))) rfl (by kernel_rfl)
theorem sR1 {x : Nest} {P n c k : Nat} {L : List Int} {a q : Nat} (rd : Option Nat) (hp : pR1 x P n k L a q) : Step Try.prog rd (lE x P n c) lb (lR x P n c k L a q) (fun e t => e = .normal ∧ t = lR x P n c (k + 1) (g1 L a (row0 x P k)) (a + len0 x P k) (a + len0 x P k)) := st (kR1 x P n c k L a q rd) hp (show 1 ≤ 2 by decide) (g := HA x (g1 L a (row0 x P k))) rfl (by kernel_rfl)
def stA (x : Nest) (P : Nat) : Nat → Option (List Int × Nat × Nat)
  | 0 => none
  | k + 1 => match stA x P k with
    | none => if len0 x P k = 0 then none else some (row0 x P k, len0 x P k, len0 x P k)
    | some (L, a, q) => if a + len0 x P k ≤ q then some (g0 L a (row0 x P k), a + len0 x P k, q) else some (g1 L a (row0 x P k), a + len0 x P k, a + len0 x P k)
def AOk (x : Nest) (P k : Nat) : Option (List Int × Nat × Nat) → Prop
  | none => x.cat P k = []
  | some (L, a, q) => a = (x.cat P k).length ∧ L.take a = x.cat P k ∧ a ≤ q ∧ q ≤ L.length ∧ 0 < a
theorem len0_eq (x : Nest) (P k : Nat) : len0 x P k = x.m P k := by unfold len0; rw [ix_eq]
theorem row0_eq (x : Nest) (P k : Nat) : row0 x P k = x.row P k := by unfold row0; rw [ix_eq]
theorem stA_ok {x : Nest} {P : Nat} (h : x.Ok P) : ∀ k, k ≤ x.N P → AOk x P k (stA x P k)
  | 0, _ => rfl
  | k + 1, hk => by
    have ih := stA_ok h k (by omega)
    have hr : (x.row P k).length = x.m P k := h.len k (by omega)
    simp only [stA]
    rw [len0_eq, row0_eq]
    cases hs : stA x P k with
    | none =>
      rw [hs] at ih
      have ih : x.cat P k = [] := ih
      simp only
      split
      · rename_i h0
        have : x.row P k = [] := List.eq_nil_of_length_eq_zero (by omega)
        show x.cat P k ++ x.row P k = []
        rw [ih, this]; rfl
      · rename_i h0
        show x.m P k = (x.cat P k ++ x.row P k).length ∧ (x.row P k).take (x.m P k) = x.cat P k ++ x.row P k ∧ _
        rw [ih, List.nil_append]
        exact ⟨hr.symm, List.take_of_length_le (by omega), Nat.le_refl _, by omega, by omega⟩
    | some t =>
      obtain ⟨L, a, q⟩ := t
      rw [hs] at ih
      obtain ⟨i1, i2, i3, i4, i5⟩ := ih
      have hl : (x.cat P k ++ x.row P k).length = a + x.m P k := by rw [List.length_append, ← i1, hr]
      have ht : (L.take a).length = a := by rw [List.length_take]; omega
      simp only
      split
      · rename_i hq
        refine ⟨hl.symm, ?_, hq, ?_, by omega⟩
        · show (g0 L a (x.row P k)).take (a + x.m P k) = x.cat P k ++ x.row P k
          unfold g0 layI
          rw [Nat.zero_add, i2, ← List.append_assoc]
          exact List.take_left' hl
        · unfold g0 layI
          rw [Nat.zero_add]
          simp only [List.length_append, List.length_take, List.length_drop]
          omega
      · have e : g1 L a (x.row P k) = x.cat P k ++ x.row P k := by unfold g1; rw [List.drop_zero, i2]
        rw [e]
        exact ⟨hl.symm, List.take_of_length_le (by omega), Nat.le_refl _, by omega, by omega⟩
def noS (x : Nest) (P n c : Nat) : Nat → St
  | 0 => lE x P n c
  | k + 1 => lN x P n c (k + 1)
def stS (x : Nest) (P n c k : Nat) : St := match stA x P k with
  | none => noS x P n c k
  | some (L, a, q) => lR x P n c k L a q
theorem q1_of {x : Nest} {P k : Nat} (h : x.Ok P) (hk : k < x.N P) : q1 x P k := by
  have hr : (x.row P k).length = x.m P k := h.len k hk
  unfold q1
  rw [len0_eq, ix_eq]
  unfold Nest.row at hr
  rw [List.drop_zero, List.length_take] at hr
  omega
theorem pA_of {x : Nest} {P n k : Nat} (h : x.Ok P) (hn : n ≤ x.N P) (hk : k < n) (hm : x.m P k ≤ 300) : pA x P n k := by
  unfold pA
  rw [len0_eq, ix_eq]
  simp only [nI, decide_eq_true_eq, decide_eq_false_iff_not]
  refine ⟨⟨⟨⟨⟨⟨trivial, by omega⟩, by omega⟩, by omega⟩, by omega⟩, by omega⟩, by omega⟩
theorem fk_of {k : Nat} (h : k < 1000) : fk k := by unfold fk; simp only [nI]; rw [IntKind.wrap_i64]; omega
theorem step {x : Nest} {P n c k : Nat} (h : x.Ok P) (hn : n ≤ x.N P) (h30 : n ≤ 30) (hk : k < n) (hm : ∀ i, i ≤ k → x.m P i ≤ 300) (rd : Option Nat) :
    Step Try.prog rd (lE x P n c) lb (stS x P n c k) (fun e t => e = .normal ∧ t = stS x P n c (k + 1)) := by
  have hA := pA_of h hn hk (hm k (Nat.le_refl _))
  have hq := q1_of (k := k) h (by omega)
  have hf := fk_of (k := k) (by omega)
  have hmk := hm k (Nat.le_refl _)
  have hok := stA_ok h k (by omega)
  have hlen := Nest.cat_len (B := 300) h k (by omega) fun i hi => hm i (by omega)
  have e1 : stS x P n c (k + 1) = match stA x P k with
    | none => if len0 x P k = 0 then lN x P n c (k + 1) else lR x P n c (k + 1) (row0 x P k) (len0 x P k) (len0 x P k)
    | some (L, a, q) => if a + len0 x P k ≤ q then lR x P n c (k + 1) (g0 L a (row0 x P k)) (a + len0 x P k) q else lR x P n c (k + 1) (g1 L a (row0 x P k)) (a + len0 x P k) (a + len0 x P k) := by
    unfold stS
    simp only [stA]
    cases stA x P k with
    | none => by_cases h0 : len0 x P k = 0 <;> simp only [h0, if_true, if_false, noS]
    | some t => obtain ⟨L, a, q⟩ := t; by_cases h0 : a + len0 x P k ≤ q <;> simp only [h0, if_true, if_false]
  rw [e1]
  cases hs : stA x P k with
  | none =>
    have e0 : stS x P n c k = noS x P n c k := by unfold stS; rw [hs]
    rw [e0]
    simp only
    by_cases h0 : len0 x P k = 0
    · rw [if_pos h0]
      have hp : pN0 x P n k := ⟨⟨⟨hA, by rw [decide_eq_true_eq]; exact h0⟩, rfl, rfl, hq⟩, hf⟩
      cases k with
      | zero => exact sEN rd hp
      | succ k => exact sNN rd hp
    · rw [if_neg h0]
      have hp : pN1 x P n k := ⟨⟨⟨hA, by rw [decide_eq_false_iff_not]; exact h0⟩, rfl, rfl, hq, by rw [len0_eq]; unfold mostBytes; omega, by rw [len0_eq]; unfold mostBytes; omega⟩, hf⟩
      cases k with
      | zero => exact sER rd hp
      | succ k => exact sNR rd hp
  | some t =>
    obtain ⟨L, a, q⟩ := t
    have e0 : stS x P n c k = lR x P n c k L a q := by unfold stS; rw [hs]
    rw [e0]
    rw [hs] at hok
    obtain ⟨i1, i2, i3, i4, i5⟩ := hok
    have hr : (x.row P k).length = x.m P k := h.len k (by omega)
    simp only
    by_cases h0 : a + len0 x P k ≤ q
    · rw [if_pos h0]
      exact sR0 rd ⟨⟨⟨hA, by rw [decide_eq_true_eq]; exact h0⟩, hq, by omega⟩, hf⟩
    · rw [if_neg h0]
      exact sR1 rd ⟨⟨⟨hA, by rw [decide_eq_false_iff_not]; exact h0⟩, hq, by omega, by rw [len0_eq]; unfold mostBytes; omega, by rw [len0_eq]; unfold mostBytes; omega⟩, hf⟩
theorem first {p : Nat → Prop} [DecidablePred p] : ∀ n, (∀ i, i < n → p i) ∨ ∃ k, k < n ∧ ¬ p k ∧ ∀ i, i < k → p i
  | 0 => .inl fun i hi => by omega
  | n + 1 => by
    rcases first (p := p) n with h | ⟨k, h1, h2, h3⟩
    · by_cases hp : p n
      · exact .inl fun i hi => by
          rcases Nat.lt_or_ge i n with h4 | h4
          · exact h i h4
          · have : i = n := by omega
            rw [this]; exact hp
      · exact .inr ⟨n, by omega, hp, h⟩
    · exact .inr ⟨k, by omega, h2, h3⟩
end
end pb
end Go.Proofs.Yteknepfcbpoooab
namespace Go.Proofs.Yteknepfcbpoooab
open Go.ChangeShapes Go.WideShapes Go.ChangeAt Go.RowKit Go.Cln
namespace pc
open pa (S ix rawN hZ rawP)
open sd se.rr
set_option linter.unusedVariables false
noncomputable section
abbrev RT := List Int → Int
def v1 (b : Int) : Int := IntKind.i64.wrap (0 + IntKind.i64.wrap (IntKind.i64.wrap b * 256))
theorem works0 : ((mk Try.prog Given.nothing 300).call 11 [] (St.start 0 .leaf [])).map (fun r => (r.1, r.2.obl)) = some (.bool true, True) := by kernel_rfl
theorem works_ok : CallOk Try.prog 11 [] (smSt 0 [] []) (.bool true) (smSt 0 [] []) := CallOk.of_below (fun W => ran sr.pg (GivenOk.nothing _) works0 trivial rfl rfl W) rfl rfl _
def F11 (f : FuncId) (args : List Value) (s : St) : Option Inst := if f == 11 then match args with
  | [] => some ⟨[], 0, [], [], .bool true, [], True⟩
  | _ => none else none
theorem F11_ok (f : FuncId) (args : List Value) (s : St) (i : Inst) (h : F11 f args s = some i) : Fits s i args ∧ (i.ask → CallOk Try.prog f i.args i.s0 i.val i.s1) := by
  unfold F11 at h
  split at h
  · rename_i hf
    have hf' : f = 11 := by simpa using hf
    subst hf'
    split at h
    · cases h
      exact ⟨⟨rfl, fun j p ob hp ho => by simp at hp⟩, fun _ => works_ok⟩
    · cases h
  · cases h
end
end pc
end Go.Proofs.Yteknepfcbpoooab
