/- Read off the code by the clean reading. -/
import Derived.Test.YtkcngffpnnlmeaaClnEl
set_option linter.unusedVariables false
set_option linter.unusedSimpArgs false
set_option linter.deprecated false
set_option maxRecDepth 100000
namespace Go.Proofs.Ytkcngffpnnlmeaa
open Go.ChangeShapes Go.WideShapes Go.ChangeAt Go.RowKit Go.Cln
namespace ae
noncomputable section
def EH (L : List Int) (ks f1 f2 x : Nat -> Int) (A : List Int) (o n c : Nat) : Nat -> Option Ob := fun i => match i with
 | 0 => some (.cells (.ints .u8 L) 5)
 | 1 => some (.cells (.lit (rowV .u8 176 ks ++ [.bool true])) 84)
 | 2 => some (.cells (.lit (.pointer (some ⟨1, 0, none⟩) :: (rowV .u8 16 f1 ++ (rowV .u8 16 f2 ++ (rowV .u8 16 x ++ [.slice none 0 0]))))) 70)
 | 3 => some (.cells (.lit ([.pointer (some ⟨2, 0, none⟩)])) 44)
 | 5 => some (.cells (.ints .u8 A) 5)
 | 6 => some (.cells (.lit [.slice (some ⟨5, o, some 1⟩) n c]) 22)
 | 7 => some (.marks)
 | 8 => some (.loop ⟨.ready, none, [.pointer (some ⟨2, 0, none⟩), junk, .pointer (some ⟨3, 0, none⟩), undef, .int .i64 0, undef, undef, .pointer (some ⟨2, 0, none⟩), .bool false, .pointer (some ⟨2, 0, none⟩), .pointer (some ⟨2, 0, none⟩), .pointer (some ⟨2, 49, none⟩)] ++ J 4 ++ [.func (.func 43) #[] #[.pointer (some ⟨6, 0, none⟩)]] ++ U 25, #[17, 18], (rngAt Try.prog 18 0).2.1, (rngAt Try.prog 18 0).2.2, 7⟩)
 | _ => none
def E (L : List Int) (ks f1 f2 x : Nat -> Int) (A : List Int) (o n c : Nat) : St := ⟨[.func (.yield 8) #[] #[], .pointer (some ⟨6, 0, none⟩)] ++ U 19, [], Tr.rebuild (EH L ks f1 f2 x A o n c) 9, 9, 2, [], fun _ => false, True, []⟩
def RH (L : List Int) (ks f1 f2 x : Nat -> Int) (A : List Int) (o n c : Nat) : Nat -> Option Ob := fun i => match i with
 | 0 => some (.cells (.ints .u8 L) 5)
 | 1 => some (.cells (.lit (rowV .u8 176 ks ++ [.bool true])) 84)
 | 2 => some (.cells (.lit (.pointer (some ⟨1, 0, none⟩) :: (rowV .u8 16 f1 ++ (rowV .u8 16 f2 ++ (rowV .u8 16 x ++ [.slice none 0 0]))))) 70)
 | 3 => some (.cells (.lit ([.pointer (some ⟨2, 0, none⟩)])) 44)
 | 5 => some (.cells (.ints .u8 A) 5)
 | 6 => some (.cells (.lit [.slice (some ⟨5, o, some 1⟩) n c]) 22)
 | 7 => some (.marks)
 | 8 => some (.loop ⟨.ready, none, [.pointer (some ⟨2, 0, none⟩), junk, .pointer (some ⟨3, 0, none⟩), undef, .int .i64 0, undef, undef, .pointer (some ⟨2, 0, none⟩), .bool false, .pointer (some ⟨2, 0, none⟩), .pointer (some ⟨2, 0, none⟩), .pointer (some ⟨2, 49, none⟩)] ++ J 4 ++ [.func (.func 43) #[] #[.pointer (some ⟨6, 0, none⟩)]] ++ U 25, #[17, 18], (rngAt Try.prog 18 0).2.1, (rngAt Try.prog 18 0).2.2, 7⟩)
 | _ => none
def R (L : List Int) (ks f1 f2 x : Nat -> Int) (A : List Int) (o n c : Nat) : St := ⟨[.func (.yield 8) #[] #[], .pointer (some ⟨6, 0, none⟩), undef, .int .i64 16, junk, junk, .bool true, junk, junk, .int .i64 16, .func (.yield 8) #[] #[]] ++ J 3 ++ [.int .i64 16, junk, .bool true, .bool false, junk, .int .i64 16, junk], [], Tr.rebuild (RH L ks f1 f2 x A o n c) 9, 9, 2, [], fun _ => false, True, []⟩
def XH (L : List Int) (ks f1 f2 x : Nat -> Int) (A : List Int) (o n : Nat) : Nat -> Option Ob := fun i => match i with
 | 0 => some (.cells (.ints .u8 L) 5)
 | 1 => some (.cells (.lit (rowV .u8 176 ks ++ [.bool true])) 84)
 | 2 => some (.cells (.lit (.pointer (some ⟨1, 0, none⟩) :: (rowV .u8 16 f1 ++ (rowV .u8 16 f2 ++ (rowV .u8 16 x ++ [.slice (some ⟨10, 0, some 1⟩) (0 + n) (0 + n)]))))) 70)
 | 3 => some (.cells (.lit ([.pointer (some ⟨2, 0, none⟩)])) 44)
 | 5 => some (.cells (.ints .u8 A) 5)
 | 6 => some (.cells (.lit [junk]) 22)
 | 7 => some (.marks)
 | 8 => some (.loop ⟨.done, some (.exit 0), [.pointer (some ⟨2, 0, none⟩), junk, .pointer (some ⟨3, 0, none⟩), undef, .int .i64 0, undef, undef, .pointer (some ⟨2, 0, none⟩), .bool false, .pointer (some ⟨2, 0, none⟩), .pointer (some ⟨2, 0, none⟩), .pointer (some ⟨2, 49, none⟩)] ++ J 4 ++ [.func (.func 43) #[] #[.pointer (some ⟨6, 0, none⟩)]] ++ U 25, #[17, 18], (rngAt Try.prog 18 0).2.1, (rngAt Try.prog 18 0).2.2, 7⟩)
 | 10 => some (.cells (.ints .u8 ((A.drop o).take n)) 5)
 | _ => none
def X (L : List Int) (ks f1 f2 x : Nat -> Int) (A : List Int) (o n : Nat) : St := ⟨[.func (.yield 8) #[] #[], .pointer (some ⟨6, 0, none⟩), undef] ++ J 18, [], Tr.rebuild (XH L ks f1 f2 x A o n) 11, 11, 2, [], fun _ => false, True, []⟩
noncomputable def bW : Code := loopB Try.prog 43 0
abbrev UX := LV -> LV -> Nat -> Int
def U0 : UX := fun x y => keyF (intAt x) (intAt y)
theorem run35 (b k : Nat -> Int) : ((mk Try.prog Given.nothing 200).call 35 [row16 b, row16 k, .func (.func 36) #[] #[]] (St.start 0 .leaf [])).map (fun r => (r.1, r.2.obl)) = some (row16 (keyF b k), True) := by kernel_rfl
def FW (U : UX) (T : CT) (f : FuncId) (args : List Value) (s : St) : Option Inst := if f == 35 then (match args with
 | [.agg x, .agg y, .func (.func 36) ⟨[]⟩ ⟨[]⟩] => if is16 x && is16 y then some (flI [.agg x, .agg y, .func (.func 36) ⟨[]⟩ ⟨[]⟩] (row16 (U x.toList y.toList)) (U = U0)) else none
 | _ => none) else if f == 22 || f == 27 || f == 24 || f == 26 || f == 37 then FC T f args s else none
theorem FW_ok (U : UX) (T : CT) (f : FuncId) (args : List Value) (s : St) (i : Inst) (h : FW U T f args s = some i) : Fits s i args /\ (i.ask -> CallOk Try.prog f i.args i.s0 i.val i.s1) := by
 unfold FW at h
 split at h
 ·rename_i hf
  have hf' : f = 35 := by simpa using hf
  subst hf'
  split at h
  ·rename_i x y
   split at h
   ·rename_i hc
    rw [Bool.and_eq_true] at hc
    have ex := is16_row hc.1
    have ey := is16_row hc.2
    cases h
    refine flI_ok (by rw [ex, ey]; rfl) rfl fun hT W => ?_
    subst hT
    have := ranF pg (GivenOk.nothing _) (run35 (intAt x.toList) (intAt y.toList)) trivial rfl rfl W
    unfold row16 at this
    rw [← ex, ← ey] at this; exact this
   ·cases h
  ·cases h
 ·split at h
  ·exact FC_ok T f args s i h
  ·cases h
def KW (U : UX) (T : CT) : Given := { Given.frames Given.nothing (FW U T) with fits := true }
theorem KW_ok (U : UX) (T : CT) : GivenOk Try.prog (KW U T) := frames_fits ((GivenOk.nothing _).frames (FW_ok U T)) true
def bRow (A : List Int) (o : Nat) : LV := famList (fun j => Value.int .u8 (A.getD j 0)) o 16
def chx (U : UX) (T : CT) (ks x : Nat -> Int) (A : List Int) (o : Nat) : Nat -> Int := T.mkb (R176 ks) (R16 (U (R16 x) (bRow A o)))
def pS (U : UX) (T : CT) (A : List Int) (o n c : Nat) : Prop := (((((((True /\ decide ((n : Int) > 0) = true) /\ decide ((16 : Int) < (n : Int)) = true) /\ (0 <= (16 : Int) /\ (16 : Int) <= (c : Int) /\ (0 : Int) <= 0 /\ (0 : Int) <= 16)) /\ decide ((n : Int) > 16) = true) /\ o + 16 <= A.length) /\ U = U0) /\ T = CT0) /\ (0 <= (n : Int) /\ (n : Int) <= (c : Int) /\ (0 : Int) <= 16 /\ (16 : Int) <= (n : Int))
def pD (A : List Int) (o n c : Nat) : Prop := (((((True /\ decide ((n : Int) > 0) = true) /\ decide ((16 : Int) < (n : Int)) = false) /\ (0 <= (n : Int) /\ (n : Int) <= (c : Int) /\ (0 : Int) <= 0 /\ (0 : Int) <= (n : Int))) /\ decide ((n : Int) > 16) = false) /\ decide (0 + n <= 0) = false) /\ (o + n <= A.length /\ 0 + 0 <= 0 /\ (0 + n) * 1 <= mostBytes /\ 0 + n <= mostBytes)
def oS : List (Option Bool) := [some true, some true, some true, some true, none, some true, none, some true]
def oD : List (Option Bool) := [some true, some false, some true, some false, none, some false]
theorem wE (U : UX) (T : CT) (L : List Int) (ks f1 f2 x : Nat -> Int) (A : List Int) (o n c : Nat) (x0 : Nat -> Int) (o0 n0 c0 : Nat) (rd : Option Nat) (hp : pS U T A o n c) :
  Step Try.prog rd (E L ks f1 f2 x0 A o0 n0 c0) bW (E L ks f1 f2 x A o n c) (fun e s => e = .normal /\ s = R L ks f1 f2 (chx U T ks x A o) A (o + 16) (n - 16) (c - 16)) :=
 Step.std pg (KW_ok U T) (n := 200) (f := 43) (σ := []) (o := oS) (n1 := 100) (g := RH L ks f1 f2 (chx U T ks x A o) A (o + 16) (n - 16) (c - 16)) (by kernel_rfl) hp (Nat.le_refl _) rfl (by kernel_rfl)
theorem wR (U : UX) (T : CT) (L : List Int) (ks f1 f2 x : Nat -> Int) (A : List Int) (o n c : Nat) (x0 : Nat -> Int) (o0 n0 c0 : Nat) (rd : Option Nat) (hp : pS U T A o n c) :
  Step Try.prog rd (E L ks f1 f2 x0 A o0 n0 c0) bW (R L ks f1 f2 x A o n c) (fun e s => e = .normal /\ s = R L ks f1 f2 (chx U T ks x A o) A (o + 16) (n - 16) (c - 16)) :=
 Step.std pg (KW_ok U T) (n := 200) (f := 43) (σ := []) (o := oS) (n1 := 100) (g := RH L ks f1 f2 (chx U T ks x A o) A (o + 16) (n - 16) (c - 16)) (by kernel_rfl) hp (Nat.le_refl _) rfl (by kernel_rfl)
theorem wX (U : UX) (T : CT) (L : List Int) (ks f1 f2 x : Nat -> Int) (A : List Int) (o n c : Nat) (x0 : Nat -> Int) (o0 n0 c0 : Nat) (rd : Option Nat) (hp : pD A o n c) :
  Step Try.prog rd (E L ks f1 f2 x0 A o0 n0 c0) bW (R L ks f1 f2 x A o n c) (fun e s => e = .ret /\ s = X L ks f1 f2 x A o n) :=
 Step.std pg (KW_ok U T) (n := 200) (f := 43) (σ := []) (o := oD) (n1 := 11) (g := XH L ks f1 f2 x A o n) (by kernel_rfl) hp (Nat.le_refl _) rfl (by kernel_rfl)
def wch (ks : Nat -> Int) (A : List Int) : Nat -> Nat -> (Nat -> Int) -> Nat -> Int
 | 0, o, x => x
 | q + 1, o, x => wch ks A q (o + 16) (chx U0 CT0 ks x A o)
theorem wch_succ (ks : Nat -> Int) (A : List Int) : ∀ (q o : Nat) (x : Nat -> Int), wch ks A (q + 1) o x = chx U0 CT0 ks (wch ks A q o x) A (o + 16 * q)
 | 0, o, x => rfl
 | q + 1, o, x => by
  show wch ks A (q + 1) (o + 16) (chx U0 CT0 ks x A o) = _
  rw [wch_succ ks A q (o + 16) _]
  show chx U0 CT0 ks (wch ks A (q + 1) o x) A (o + 16 + 16 * q) = _
  rw [show o + 16 + 16 * q = o + 16 * (q + 1) by omega]
theorem loopWr (L : List Int) (ks f1 f2 x : Nat -> Int) (A : List Int) (o c q r : Nat) (hq : 0 < q) (h0 : 0 < r) (h1 : r <= 16) (hc : 16 * q + r <= c) (hA : o + (16 * q + r) <= A.length) (hm : A.length <= 1000000) (rd : Option Nat) :
  CodeOk Try.prog rd (.loop bW) (E L ks f1 f2 x A o (16 * q + r) c) .ret (X L ks f1 f2 (wch ks A q o x) A (o + 16 * q) r) := by
 refine CodeOk.of_step (Step.loop (fun k s => (k = q /\ s = E L ks f1 f2 x A o (16 * q + r) c) ∨ ∃ i, 0 < i /\ i <= q /\ k = q - i /\ s = R L ks f1 f2 (wch ks A i o x) A (o + 16 * i) (16 * q + r - 16 * i) (c - 16 * i)) ?_ q _ (.inl ⟨rfl, rfl⟩))
 have ps : ∀ i, i < q -> pS U0 CT0 A (o + 16 * i) (16 * q + r - 16 * i) (c - 16 * i) := fun i hi => by
  refine ⟨⟨⟨⟨⟨⟨⟨⟨trivial, ?_⟩, ?_⟩, ?_⟩, ?_⟩, by omega⟩, rfl⟩, rfl⟩, ?_⟩
  ·rw [decide_eq_true_eq]; omega
  ·rw [decide_eq_true_eq]; omega
  ·omega
  ·rw [decide_eq_true_eq]; omega
  ·omega
 rintro k s (⟨rfl, rfl⟩ | ⟨i, hi0, hi, rfl, rfl⟩)
 ·refine (wE U0 CT0 L ks f1 f2 x A o (16 * k + r) c x o (16 * k + r) c rd (ps 0 hq)).mono ?_
  rintro e s ⟨rfl, rfl⟩
  exact .inl ⟨rfl, k - 1, by omega, .inr ⟨1, by omega, by omega, rfl, rfl⟩⟩
 ·rcases Nat.lt_or_ge i q with h | h
  ·refine (wR U0 CT0 L ks f1 f2 (wch ks A i o x) A (o + 16 * i) (16 * q + r - 16 * i) (c - 16 * i) x o (16 * q + r) c rd (ps i h)).mono ?_
   rintro e s ⟨rfl, rfl⟩
   refine .inl ⟨rfl, q - (i + 1), by omega, .inr ⟨i + 1, by omega, by omega, rfl, ?_⟩⟩
   rw [wch_succ, show o + 16 * i + 16 = o + 16 * (i + 1) by omega, show 16 * q + r - 16 * i - 16 = 16 * q + r - 16 * (i + 1) by omega, show c - 16 * i - 16 = c - 16 * (i + 1) by omega]
  ·obtain rfl : i = q := by omega
   have e : 16 * i + r - 16 * i = r := by omega
   rw [e]
   refine (wX U0 CT0 L ks f1 f2 (wch ks A i o x) A (o + 16 * i) r (c - 16 * i) x o (16 * i + r) c rd ?_).mono ?_
   ·refine ⟨⟨⟨⟨⟨⟨trivial, ?_⟩, ?_⟩, by omega⟩, ?_⟩, ?_⟩, by omega, by omega, by unfold mostBytes; omega, by unfold mostBytes; omega⟩
    ·rw [decide_eq_true_eq]; omega
    ·rw [decide_eq_false_iff_not]; omega
    ·rw [decide_eq_false_iff_not]; omega
    ·rw [decide_eq_false_iff_not]; omega
   ·rintro e s ⟨rfl, rfl⟩
    exact .inr ⟨(by intro x; cases x), rfl, rfl⟩
def askW (S : St) (f : FuncId) (c : Code) (_ : St) : Option Ask2 := if f == 43 then some ⟨⟨[], [], [(8, [1, 12, 13, 14, 15])], [4]⟩, .ret, fun _ => S⟩ else none
def hMac (L : List Int) (ks f1 f2 x : Nat -> Int) (left : Value) : List (Option Ob) := [some (.cells (.ints .u8 L) 5), some (.cells (.lit (rowV .u8 176 ks ++ [.bool true])) 84), some (.cells (.lit (.pointer (some ⟨1, 0, none⟩) :: (rowV .u8 16 f1 ++ (rowV .u8 16 f2 ++ (rowV .u8 16 x ++ [left]))))) 70)]
def sl (b q : Nat) (g : Option Nat) (n c : Nat) : Value := .slice (some ⟨b, q, g⟩) n c
def zN (n : Nat) : Nat := (IntKind.i64.wrap ((nI 0) + (nI n))).toNat
def hcc (L : List Int) (q : Nat) (g : Option Nat) (n c : Nat) : List (Option Ob) := [some (.cells (.lit [.slice none 0 0, sl 1 q g n c]) 22), some (.cells (.ints .u8 L) 5)]
def hcd (L : List Int) (q : Nat) (g : Option Nat) (n c : Nat) : List (Option Ob) := hcc L q g n c ++ [some (.cells (.ints .u8 (layI (layI (List.replicate (zN n) 0) 0 []) 0 ((L.drop q).take n))) 5)]
def oCCn : List (Option Bool) := [none, none, none, none, none, none, none, some true, none, none, none, none, none, some true, some true, some true, some true, none, none, none, none, none, none, some true]
def pCCn (L : List Int) (q : Nat) (n : Nat) (c : Nat) : Prop := ((((((((True /\ ((IntKind.i64.wrap ((nI 0) + (nI n))) = ((nI 0) + (nI n)))) /\ ((IntKind.i64.wrap ((nI 0) + (nI n))) = ((nI 0) + (nI n)))) /\ ((decide (0 < ((nI 0) + (nI n)))) = true)) /\ ((1 <= (IntKind.i64.wrap ((nI 0) + (nI n)))) /\ ((((IntKind.i64.wrap ((nI 0) + (nI n))).toNat * 1) <= mostBytes) /\ ((IntKind.i64.wrap ((nI 0) + (nI n))).toNat <= mostBytes)))) /\ ((0 <= (nI 0)) /\ (((nI 0) <= (nI (IntKind.i64.wrap ((nI 0) + (nI n))).toNat)) /\ (((0 : Int) <= 0) /\ (0 <= (nI 0)))))) /\ ((0 = 0) /\ (0 <= (List.replicate (IntKind.i64.wrap ((nI 0) + (nI n))).toNat (0 : Int)).length))) /\ ((decide ((0 + n) <= (IntKind.i64.wrap ((nI 0) + (nI n))).toNat)) = true)) /\ (((q + n) <= L.length) /\ ((0 + n) <= (layI (List.replicate (IntKind.i64.wrap ((nI 0) + (nI n))).toNat (0 : Int)) 0 []).length)))
theorem runCCn (L : List Int) (q : Nat) (n : Nat) (c : Nat) : ((mk Try.prog { Given.nothing with fits := true } 200).call 30 [sl 0 0 none 2 2] (smSt 2 [some (.cells (.lit [.slice none 0 0, sl 1 q none n c]) 22), some (.cells (.ints .u8 L) 5)] oCCn)).map (fun r => (r.1, r.2.obl, r.2.next, keepL [true, true, true] r.2.heap.get 0)) = some (sl 2 0 (some 1) (0 + n) (zN n), pCCn L q n c, ((hcd L q none n c)).length, (hcd L q none n c)) := by kernel_rfl
def oCC1 : List (Option Bool) := [none, none, none, none, none, none, none, some true, none, none, none, none, none, some true, some true, some true, some true, none, none, none, none, none, none, some true]
def pCC1 (L : List Int) (q : Nat) (n : Nat) (c : Nat) : Prop := ((((((((True /\ ((IntKind.i64.wrap ((nI 0) + (nI n))) = ((nI 0) + (nI n)))) /\ ((IntKind.i64.wrap ((nI 0) + (nI n))) = ((nI 0) + (nI n)))) /\ ((decide (0 < ((nI 0) + (nI n)))) = true)) /\ ((1 <= (IntKind.i64.wrap ((nI 0) + (nI n)))) /\ ((((IntKind.i64.wrap ((nI 0) + (nI n))).toNat * 1) <= mostBytes) /\ ((IntKind.i64.wrap ((nI 0) + (nI n))).toNat <= mostBytes)))) /\ ((0 <= (nI 0)) /\ (((nI 0) <= (nI (IntKind.i64.wrap ((nI 0) + (nI n))).toNat)) /\ (((0 : Int) <= 0) /\ (0 <= (nI 0)))))) /\ ((0 = 0) /\ (0 <= (List.replicate (IntKind.i64.wrap ((nI 0) + (nI n))).toNat (0 : Int)).length))) /\ ((decide ((0 + n) <= (IntKind.i64.wrap ((nI 0) + (nI n))).toNat)) = true)) /\ (((q + n) <= L.length) /\ ((0 + n) <= (layI (List.replicate (IntKind.i64.wrap ((nI 0) + (nI n))).toNat (0 : Int)) 0 []).length)))
theorem runCC1 (L : List Int) (q : Nat) (n : Nat) (c : Nat) : ((mk Try.prog { Given.nothing with fits := true } 200).call 30 [sl 0 0 none 2 2] (smSt 2 [some (.cells (.lit [.slice none 0 0, sl 1 q (some 1) n c]) 22), some (.cells (.ints .u8 L) 5)] oCC1)).map (fun r => (r.1, r.2.obl, r.2.next, keepL [true, true, true] r.2.heap.get 0)) = some (sl 2 0 (some 1) (0 + n) (zN n), pCC1 L q n c, ((hcd L q (some 1) n c)).length, (hcd L q (some 1) n c)) := by kernel_rfl
theorem zN_eq {n : Nat} (h : n <= 1000000) : zN n = n := by
 unfold zN
 have : IntKind.i64.wrap ((nI 0) + (nI n)) = (n : Int) := by rw [IntKind.wrap_i64]; simp only [nI]; omega
 rw [this]; rfl
theorem lay0 {X : List Int} {n : Nat} (h : X.length = n) : layI (layI (List.replicate n 0) 0 []) 0 X = X := by
 unfold layI
 simp [h]
theorem pCC_ok {L : List Int} {q n c : Nat} (h0 : 0 < n) (h1 : n <= 1000000) (h2 : q + n <= L.length) : pCCn L q n c := by
 unfold pCCn
 have e : IntKind.i64.wrap ((nI 0) + (nI n)) = (n : Int) := by rw [IntKind.wrap_i64]; simp only [nI]; omega
 rw [e]
 have l0 : (List.replicate ((n : Int)).toNat (0 : Int)).length = n := by simp
 have l1 : (layI (List.replicate ((n : Int)).toNat (0 : Int)) 0 []).length = n := by unfold layI; simp
 rw [l1, l0]
 simp only [decide_eq_true_eq, nI, mostBytes]
 repeat' apply And.intro
 all_goals first | trivial | omega
theorem pCC1_ok {L : List Int} {q n c : Nat} (h0 : 0 < n) (h1 : n <= 1000000) (h2 : q + n <= L.length) : pCC1 L q n c := pCC_ok (c := c) h0 h1 h2
def hce (L : List Int) (q : Nat) (g : Option Nat) (n c : Nat) : List (Option Ob) := hcc L q g n c ++ [some (.cells (.ints .u8 ((L.drop q).take n)) 5)]
theorem Kf_ok : GivenOk Try.prog { Given.nothing with fits := true } := frames_fits (GivenOk.nothing _) true
theorem cc_ok {L : List Int} {q n c : Nat} {g : Option Nat} (hg : g = none ∨ g = some 1) (h0 : 0 < n) (h1 : n <= 1000000) (h2 : q + n <= L.length) : CallOk Try.prog 30 [sl 0 0 none 2 2] (smSt 2 (hcc L q g n c) []) (sl 2 0 (some 1) n n) (smSt 2 (hce L q g n c) []) := by
 have e1 : layI (layI (List.replicate (zN n) 0) 0 []) 0 ((L.drop q).take n) = (L.drop q).take n := by
  rw [zN_eq h1]; exact lay0 (by simp; omega)
 have e2 : hcd L q g n c = hce L q g n c := by unfold hcd hce; rw [e1]
 have e3 : sl 2 0 (some 1) (0 + n) (zN n) = sl 2 0 (some 1) n n := by rw [zN_eq h1, Nat.zero_add]
 rcases hg with rfl | rfl
 ·have := frame_by pg Kf_ok _ (runCCn L q n c) (pCC_ok h0 h1 h2) (by rfl) rfl
  rw [e2, e3] at this; exact this
 ·have := frame_by pg Kf_ok _ (runCC1 L q n c) (pCC1_ok h0 h1 h2) (by rfl) rfl
  rw [e2, e3] at this; exact this
def hcf (L : List Int) (g : Option Nat) (n c : Nat) : List (Option Ob) := hcc L 0 g n c ++ [some (.cells (.ints .u8 L) 5)]
theorem hcf_eq {L : List Int} {g : Option Nat} {n c : Nat} (h : L.length = n) : hce L 0 g n c = hcf L g n c := by
 unfold hce hcf
 rw [List.drop_zero, List.take_of_length_le (by omega)]
def gOk (g : Option Nat) : Bool := match g with
 | none => true
 | some 1 => true
 | _ => false
theorem gOk_abs {g : Option Nat} (h : gOk g = true) : isAbs g = false := by
 unfold gOk at h
 split at h
 ·rfl
 ·rfl
 ·cases h
theorem gOk_iff {g : Option Nat} (h : gOk g = true) : g = none ∨ g = some 1 := by
 unfold gOk at h
 split at h
 ·exact .inl rfl
 ·exact .inr rfl
 ·cases h
def FK (f : FuncId) (args : List Value) (s : St) : Option Inst := if f == 30 then (match args with
 | [.slice (some ⟨k, 0, none⟩) 2 2] => (match s.heap.get k with
  | some (.cells (.lit [.slice none 0 0, .slice (some ⟨b, q, g⟩) n c]) _) => (match s.heap.get b with
   | some (.cells (.ints .u8 L) _) => if gOk g then some ⟨[(k, 0), (b, q)], 2, hcc ((L.drop q).take n) 0 g n c, [sl 0 0 none 2 2], sl 2 0 (some 1) n n, hcf ((L.drop q).take n) g n c, 0 < n /\ n <= 1000000 /\ ((L.drop q).take n).length = n⟩ else none
   | _ => none)
  | _ => none)
 | _ => none) else none
theorem FK_ok (f : FuncId) (args : List Value) (s : St) (i : Inst) (h : FK f args s = some i) : Fits s i args /\ (i.ask -> CallOk Try.prog f i.args i.s0 i.val i.s1) := by
 unfold FK at h
 split at h
 ·rename_i hf
  have hf' : f = 30 := by simpa using hf
  subst hf'
  split at h
  ·rename_i k
   split at h
   ·rename_i b q g n c tk hk
    split at h
    ·rename_i L tb hb
     split at h
     ·rename_i hg
      cases h
      refine ⟨⟨?_, fun j pp ob h1 h2 => ?_⟩, fun ⟨a1, a2, a3⟩ => by
       have := cc_ok (L := (L.drop q).take n) (q := 0) (c := c) (gOk_iff hg) a1 a2 (by omega)
       rw [hcf_eq a3] at this; exact this⟩
      ·show [Value.slice (some ⟨k, 0, none⟩) 2 2] = [Value.slice (some ⟨k, addO 0 0, none⟩) 2 2]
       rw [addO_eq]
      ·rcases j with _ | _ | j
       ·simp only [List.getElem?_cons_zero, Option.some.injEq] at h1
        simp only [hcc, List.getElem?_cons_zero, Option.some.injEq] at h2
        subst h1; subst h2
        refine ⟨_, hk, fun x v hv => ?_⟩
        rcases x with _ | _ | x
        ·simp only [Cells.get, List.getElem?_cons_zero, Option.some.injEq] at hv
         subst hv; exact ⟨_, rfl, rfl, rfl⟩
        ·simp only [Cells.get, Nat.zero_add, List.getElem?_cons_succ, List.getElem?_cons_zero, Option.some.injEq] at hv
         subst hv
         refine ⟨_, rfl, ?_, okN_sl (gOk_abs hg) (show 1 < 2 by decide)⟩
         unfold sl
         rw [mv_sl _ _ (gOk_abs hg)]
         show Value.slice (some ⟨b, q, g⟩) n c = Value.slice (some ⟨b, addO q 0, g⟩) n c
         rw [addO_eq]; rfl
        ·simp [Cells.get] at hv
       ·simp only [Nat.zero_add, List.getElem?_cons_succ, List.getElem?_cons_zero, Option.some.injEq] at h1
        simp only [hcc, Nat.zero_add, List.getElem?_cons_succ, List.getElem?_cons_zero, Option.some.injEq] at h2
        subst h1; subst h2
        exact ⟨_, hb, fit_ints⟩
       ·simp at h1
     ·cases h
    ·cases h
   ·cases h
  ·cases h
 ·cases h
def KV (U : UX) (T : CT) : Given := { Given.frames (Given.frames Given.nothing (FW U T)) FK with fits := true }
theorem KV_ok (U : UX) (T : CT) : GivenOk Try.prog (KV U T) := frames_fits (((GivenOk.nothing _).frames (FW_ok U T)).frames FK_ok) true
def KVA (U : UX) (T : CT) (S : St) : Given := Given.asking2 (KV U T) Try.prog (askW S)
theorem KVA_ok (U : UX) (T : CT) (S : St) : GivenOk Try.prog (KVA U T S) := GivenOk.asking2 (KV_ok U T) _
def a30 (L : List Int) (q n : Nat) : Prop := 0 < n /\ n <= 1000000 /\ ((L.drop q).take n).length = n
def hMx (L : List Int) (ks f1 f2 x : Nat -> Int) (A : List Int) (o r : Nat) : List (Option Ob) := hMac L ks f1 f2 x (sl 10 0 (some 1) (0 + r) (0 + r)) ++ (List.replicate 7 none ++ [some (.cells (.ints .u8 ((A.drop o).take r)) 5)])
def ks11 : List Bool := [true, true, true, false, false, false, false, false, false, false, true]
def pB (L : List Int) (q n : Nat) : Prop := ((((((True /\ a30 L q n) /\ decide ((n : Int) > 0) = true) /\ decide ((16 : Int) < (n : Int)) = false) /\ (0 <= (n : Int) /\ (n : Int) <= (n : Int) /\ (0 : Int) <= 0 /\ (0 : Int) <= (n : Int))) /\ decide ((n : Int) > 16) = false) /\ decide (0 + n <= 0) = false) /\ (0 + n <= ((L.drop q).take n).length /\ 0 + 0 <= 0 /\ (0 + n) * 1 <= mostBytes /\ 0 + n <= mostBytes)
theorem wCn (U : UX) (T : CT) (L : List Int) (ks f1 f2 x : Nat -> Int) (q n c : Nat) (x' : Nat -> Int) (o' r : Nat) : ((mk Try.prog (KVA U T (X L ks f1 f2 x' ((L.drop q).take n) o' r)) 200).call 18 [P0 2 0, sl 0 q none n c] (smSt 2 (hMac L ks f1 f2 x (.slice none 0 0)) [])).map (fun r => (r.1, r.2.obl, r.2.next, keepL ks11 r.2.heap.get 0)) = some (.int .i64 0, (True /\ a30 L q n) /\ (∀ rd, CodeOk Try.prog rd (.loop bW) (E L ks f1 f2 x ((L.drop q).take n) 0 n n) .ret (X L ks f1 f2 x' ((L.drop q).take n) o' r)), (hMx L ks f1 f2 x' ((L.drop q).take n) o' r).length, hMx L ks f1 f2 x' ((L.drop q).take n) o' r) := by kernel_rfl
theorem wBn (U : UX) (T : CT) (L : List Int) (ks f1 f2 x : Nat -> Int) (q n c : Nat) : ((mk Try.prog (KV U T) 200).call 18 [P0 2 0, sl 0 q none n c] (smSt 2 (hMac L ks f1 f2 x (.slice none 0 0)) (nn 8 ++ oD))).map (fun r => (r.1, r.2.obl, r.2.next, keepL ks11 r.2.heap.get 0)) = some (.int .i64 0, pB L q n, (hMx L ks f1 f2 x ((L.drop q).take n) 0 n).length, hMx L ks f1 f2 x ((L.drop q).take n) 0 n) := by kernel_rfl
theorem wC1 (U : UX) (T : CT) (L : List Int) (ks f1 f2 x : Nat -> Int) (q n c : Nat) (x' : Nat -> Int) (o' r : Nat) : ((mk Try.prog (KVA U T (X L ks f1 f2 x' ((L.drop q).take n) o' r)) 200).call 18 [P0 2 0, sl 0 q (some 1) n c] (smSt 2 (hMac L ks f1 f2 x (.slice none 0 0)) [])).map (fun r => (r.1, r.2.obl, r.2.next, keepL ks11 r.2.heap.get 0)) = some (.int .i64 0, (True /\ a30 L q n) /\ (∀ rd, CodeOk Try.prog rd (.loop bW) (E L ks f1 f2 x ((L.drop q).take n) 0 n n) .ret (X L ks f1 f2 x' ((L.drop q).take n) o' r)), (hMx L ks f1 f2 x' ((L.drop q).take n) o' r).length, hMx L ks f1 f2 x' ((L.drop q).take n) o' r) := by kernel_rfl
theorem wB1 (U : UX) (T : CT) (L : List Int) (ks f1 f2 x : Nat -> Int) (q n c : Nat) : ((mk Try.prog (KV U T) 200).call 18 [P0 2 0, sl 0 q (some 1) n c] (smSt 2 (hMac L ks f1 f2 x (.slice none 0 0)) (nn 8 ++ oD))).map (fun r => (r.1, r.2.obl, r.2.next, keepL ks11 r.2.heap.get 0)) = some (.int .i64 0, pB L q n, (hMx L ks f1 f2 x ((L.drop q).take n) 0 n).length, hMx L ks f1 f2 x ((L.drop q).take n) 0 n) := by kernel_rfl
theorem write_ok (L : List Int) (ks f1 f2 x : Nat -> Int) (q c Q r : Nat) (g : Option Nat) (hg : g = none ∨ g = some 1) (h0 : 0 < r) (h1 : r <= 16) (hn : 16 * Q + r <= 1000000) (hc : 16 * Q + r <= c) (hL : ((L.drop q).take (16 * Q + r)).length = 16 * Q + r) :
  CallOk Try.prog 18 [P0 2 0, sl 0 q g (16 * Q + r) c] (smSt 2 (hMac L ks f1 f2 x (.slice none 0 0)) []) (.int .i64 0) (smSt 2 (hMx L ks f1 f2 (wch ks ((L.drop q).take (16 * Q + r)) Q 0 x) ((L.drop q).take (16 * Q + r)) (0 + 16 * Q) r) []) := by
 have a : a30 L q (16 * Q + r) := ⟨by omega, hn, hL⟩
 by_cases hQ : Q = 0
 ·subst hQ
  have e : 16 * 0 + r = r := by omega
  rw [e] at a hL hc ⊢
  have hp : pB L q r := by
   refine ⟨⟨⟨⟨⟨⟨⟨trivial, a⟩, ?_⟩, ?_⟩, by omega⟩, ?_⟩, ?_⟩, by omega, by omega, by unfold mostBytes; omega, by unfold mostBytes; omega⟩
   ·rw [decide_eq_true_eq]; omega
   ·rw [decide_eq_false_iff_not]; omega
   ·rw [decide_eq_false_iff_not]; omega
   ·rw [decide_eq_false_iff_not]; omega
  rcases hg with rfl | rfl
  ·exact frame_by pg (KV_ok U0 CT0) _ (wBn U0 CT0 L ks f1 f2 x q r c) hp (by rfl) rfl
  ·exact frame_by pg (KV_ok U0 CT0) _ (wB1 U0 CT0 L ks f1 f2 x q r c) hp (by rfl) rfl
 ·have hl := fun rd => loopWr L ks f1 f2 x ((L.drop q).take (16 * Q + r)) 0 (16 * Q + r) Q r (by omega) h0 h1 (Nat.le_refl _) (by omega) (by omega) rd
  rcases hg with rfl | rfl
  ·exact frame_by pg (KVA_ok U0 CT0 _) _ (wCn U0 CT0 L ks f1 f2 x q (16 * Q + r) c (wch ks ((L.drop q).take (16 * Q + r)) Q 0 x) (0 + 16 * Q) r) ⟨⟨trivial, a⟩, hl⟩ (by rfl) rfl
  ·exact frame_by pg (KVA_ok U0 CT0 _) _ (wC1 U0 CT0 L ks f1 f2 x q (16 * Q + r) c (wch ks ((L.drop q).take (16 * Q + r)) Q 0 x) (0 + 16 * Q) r) ⟨⟨trivial, a⟩, hl⟩ (by rfl) rfl
end
end ae
end Go.Proofs.Ytkcngffpnnlmeaa
