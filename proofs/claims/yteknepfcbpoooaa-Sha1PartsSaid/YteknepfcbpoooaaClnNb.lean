/- Read off the code by the clean reading. -/
import Derived.Test.YteknepfcbpoooaaClnNa
set_option linter.unusedVariables false
set_option linter.unusedSimpArgs false
set_option linter.deprecated false
set_option maxRecDepth 100000
namespace Go.Proofs.Yteknepfcbpoooaa
open Go.ChangeShapes Go.WideShapes Go.ChangeAt Go.RowKit Go.Cln
namespace na
open hc hx hy hz tb
set_option linter.unusedVariables false
noncomputable section
abbrev DT := List Int → sw.N5
/-- all that the law's own calls are told -/
def FLw (x : Nest) (D : DT) (f : FuncId) (args : List Value) (s : St) : Option Inst := match F13 x D f args s with
  | some i => some i
  | none => tc.FD D f args s
theorem FLw_ok (x : Nest) (D : DT) (f : FuncId) (args : List Value) (s : St) (i : Inst) (h : FLw x D f args s = some i) : Fits s i args ∧ (i.ask → CallOk Try.prog f i.args i.s0 i.val i.s1) := by
  unfold FLw at h
  split at h
  · rename_i j h1
    cases h; exact F13_ok x D f args s _ h1
  · exact tc.FD_ok D f args s _ h
def KL (x : Nest) (D : DT) : Given := { Given.frames Given.nothing (FLw x D) with fits := true }
theorem KL_ok (x : Nest) (D : DT) : GivenOk Try.prog (KL x D) := frames_fits ((GivenOk.nothing _).frames (FLw_ok x D)) true
def lb : Code := loopB Try.prog 4 0
def hd (P n c : Nat) (all : Value) (k : Int) : List Value := [S P n c, undef, .bool false, all, .int .i64 k, S P n c, .int .i64 (nI n), .bool false, undef]
def HN (x : Nest) : Nat → Option Ob := fun i => match i with
  | 0 => some (.fam x.F)
  | _ => none
def HA (x : Nest) (L : List Int) : Nat → Option Ob := fun i => match i with
  | 0 => some (.fam x.F)
  | 1 => some (.cells (.ints .u8 L) 5)
  | _ => none
def nul : Value := .slice none 0 0
def lE (x : Nest) (P n c : Nat) : St := ⟨hd P n c nul 0 ++ U 27, [], Tr.rebuild (HN x) 1, 1, 1, [], fun _ => false, True, []⟩
def lN (x : Nest) (P n c k : Nat) : St := ⟨hd P n c nul (nI k) ++ (J 12 ++ (U 1 ++ (J 6 ++ U 8))), [], Tr.rebuild (HN x) 1, 1, 1, [], fun _ => false, True, []⟩
def lR (x : Nest) (P n c k : Nat) (L : List Int) (a q : Nat) : St := ⟨hd P n c (.slice (some ⟨1, 0, some 1⟩) a q) (nI k) ++ (J 12 ++ (U 1 ++ (J 6 ++ U 8))), [], Tr.rebuild (HA x L) 2, 2, 1, [], fun _ => false, True, []⟩
def yE (x : Nest) (P n c : Nat) : St := ⟨[S P n c, undef, .bool true, nul, junk, S P n c, .int .i64 (nI n), .bool false, undef] ++ (J 5 ++ (J 7 ++ (J 1 ++ U 14))), [], Tr.rebuild (HN x) 1, 1, 1, [], fun _ => false, True, []⟩
def row0 (x : Nest) (P k : Nat) : List Int := x.row P (ix k)
def len0 (x : Nest) (P k : Nat) : Nat := x.m P (ix k)
/-- what a round asks ahead of its append -/
def pA (x : Nest) (P n k : Nat) : Prop := (((((True ∧ decide (nI k < nI n) = true) ∧ (0 ≤ nI k ∧ nI k < nI n)) ∧ ix k < x.N P) ∧ decide (nI (len0 x P k) > 300) = false) ∧ (0 ≤ nI k ∧ nI k < nI n)) ∧ ix k < x.N P
def q1 (x : Nest) (P k : Nat) : Prop := len0 x P k = 0 ∨ 0 + len0 x P k ≤ (x.D (x.Q P (ix k))).length
def fk (k : Nat) : Prop := IntKind.i64.wrap (nI k + 1) = nI k + 1
def pN0 (x : Nest) (P n k : Nat) : Prop := ((pA x P n k ∧ decide (len0 x P k = 0) = true) ∧ ((0 : Nat) = 0 ∧ (0 : Nat) = 0 ∧ q1 x P k)) ∧ fk k
def pN1 (x : Nest) (P n k : Nat) : Prop := ((pA x P n k ∧ decide (len0 x P k = 0) = false) ∧ ((0 : Nat) = 0 ∧ (0 : Nat) = 0 ∧ q1 x P k ∧ len0 x P k * 1 ≤ mostBytes ∧ len0 x P k ≤ mostBytes)) ∧ fk k
def pR0 (x : Nest) (P n k : Nat) (L : List Int) (a q : Nat) : Prop := ((pA x P n k ∧ decide (a + len0 x P k ≤ q) = true) ∧ (q1 x P k ∧ 0 + a + len0 x P k ≤ L.length)) ∧ fk k
def pR1 (x : Nest) (P n k : Nat) (L : List Int) (a q : Nat) : Prop := ((pA x P n k ∧ decide (a + len0 x P k ≤ q) = false) ∧ (q1 x P k ∧ 0 + a ≤ L.length ∧ (a + len0 x P k) * 1 ≤ mostBytes ∧ a + len0 x P k ≤ mostBytes)) ∧ fk k
def oA (b : Bool) : List (Option Bool) := [some true, some true, some true, some false, some true, some true, some b, some true]
def go (x : Nest) (D : DT) (s : St) (rd : Option Nat) (o : List (Option Bool)) (t : St) (σ : List Nat) : Option (Exit × Prop × Seen) := ((mk Try.prog (KL x D) 200).code 4 rd lb { s with obl := True, orc := o }).map (fun r => (r.1, r.2.obl, seenIn r.2 t σ))
def g0 (L : List Int) (a : Nat) (r : List Int) : List Int := layI L (0 + a) r
def g1 (L : List Int) (a : Nat) (r : List Int) : List Int := (L.drop 0).take a ++ r
theorem kEN (x : Nest) (D : DT) (P n c : Nat) (rd : Option Nat) : go x D (lE x P n c) rd (oA true) (lN x P n c (0 + 1)) [] = some (.normal, pN0 x P n 0, seenAs (lN x P n c (0 + 1)) [] 1) := by kernel_rfl
theorem kER (x : Nest) (D : DT) (P n c : Nat) (rd : Option Nat) : go x D (lE x P n c) rd (oA false) (lR x P n c (0 + 1) (row0 x P 0) (len0 x P 0) (len0 x P 0)) [] = some (.normal, pN1 x P n 0, seenAs (lR x P n c (0 + 1) (row0 x P 0) (len0 x P 0) (len0 x P 0)) [] 2) := by kernel_rfl
theorem kNN (x : Nest) (D : DT) (P n c k : Nat) (rd : Option Nat) : go x D (lN x P n c k) rd (oA true) (lN x P n c (k + 1)) [] = some (.normal, pN0 x P n k, seenAs (lN x P n c (k + 1)) [] 1) := by kernel_rfl
theorem kNR (x : Nest) (D : DT) (P n c k : Nat) (rd : Option Nat) : go x D (lN x P n c k) rd (oA false) (lR x P n c (k + 1) (row0 x P k) (len0 x P k) (len0 x P k)) [] = some (.normal, pN1 x P n k, seenAs (lR x P n c (k + 1) (row0 x P k) (len0 x P k) (len0 x P k)) [] 2) := by kernel_rfl
theorem kR0 (x : Nest) (D : DT) (P n c k : Nat) (L : List Int) (a q : Nat) (rd : Option Nat) : go x D (lR x P n c k L a q) rd (oA true) (lR x P n c (k + 1) (g0 L a (row0 x P k)) (a + len0 x P k) q) [] = some (.normal, pR0 x P n k L a q, seenAs (lR x P n c (k + 1) (g0 L a (row0 x P k)) (a + len0 x P k) q) [] 2) := by kernel_rfl
theorem kR1 (x : Nest) (D : DT) (P n c k : Nat) (L : List Int) (a q : Nat) (rd : Option Nat) : go x D (lR x P n c k L a q) rd (oA false) (lR x P n c (k + 1) (g1 L a (row0 x P k)) (a + len0 x P k) (a + len0 x P k)) [0, 2] = some (.normal, pR1 x P n k L a q, seenAs (lR x P n c (k + 1) (g1 L a (row0 x P k)) (a + len0 x P k) (a + len0 x P k)) [0, 2] 3) := by kernel_rfl
theorem kNX (x : Nest) (D : DT) (P n c k : Nat) (rd : Option Nat) : go x D (lN x P n c k) rd [some false] (lN x P n c k) [] = some (.exit 0, True ∧ decide (nI k < nI n) = false, seenAs (lN x P n c k) [] 1) := by kernel_rfl
theorem kRX (x : Nest) (D : DT) (P n c k : Nat) (L : List Int) (a q : Nat) (rd : Option Nat) : go x D (lR x P n c k L a q) rd [some false] (lR x P n c k L a q) [] = some (.exit 0, True ∧ decide (nI k < nI n) = false, seenAs (lR x P n c k L a q) [] 2) := by kernel_rfl
end
end na
end Go.Proofs.Yteknepfcbpoooaa
namespace Go.Proofs.Yteknepfcbpoooaa
open Go.ChangeShapes Go.WideShapes Go.ChangeAt Go.RowKit Go.Cln
namespace na
open hc hx hy hz tb
set_option linter.unusedVariables false
noncomputable section
def hdY (P n c : Nat) (all : Value) (k : Int) : List Value := [S P n c, undef, .bool true, all, .int .i64 k, S P n c, .int .i64 (nI n), .bool false, undef]
def eY (x : Nest) (P n c : Nat) : St := ⟨hdY P n c nul 0 ++ (J 4 ++ (U 2 ++ (J 6 ++ (J 1 ++ U 14)))), [], Tr.rebuild (HN x) 1, 1, 1, [], fun _ => false, True, []⟩
def nY (x : Nest) (P n c k : Nat) : St := ⟨hdY P n c nul (nI k) ++ (J 12 ++ (J 1 ++ (J 6 ++ U 8))), [], Tr.rebuild (HN x) 1, 1, 1, [], fun _ => false, True, []⟩
def rY (x : Nest) (P n c k : Nat) (L : List Int) (a q : Nat) : St := ⟨hdY P n c (.slice (some ⟨1, 0, some 1⟩) a q) (nI k) ++ (J 12 ++ (J 1 ++ (J 6 ++ U 8))), [], Tr.rebuild (HA x L) 2, 2, 1, [], fun _ => false, True, []⟩
def oY : List (Option Bool) := [some true, some true, some true, some true]
def pY (x : Nest) (P n k : Nat) : Prop := ((((True ∧ decide (nI k < nI n) = true) ∧ (0 ≤ nI k ∧ nI k < nI n)) ∧ ix k < x.N P) ∧ decide (nI (len0 x P k) > 300) = true) ∧ True
theorem kEY (x : Nest) (D : DT) (P n c : Nat) (rd : Option Nat) : go x D (lE x P n c) rd oY (eY x P n c) [] = some (.ret, pY x P n 0, seenAs (eY x P n c) [] 1) := by kernel_rfl
theorem kNY (x : Nest) (D : DT) (P n c k : Nat) (rd : Option Nat) : go x D (lN x P n c k) rd oY (nY x P n c k) [] = some (.ret, pY x P n k, seenAs (nY x P n c k) [] 1) := by kernel_rfl
theorem kRY (x : Nest) (D : DT) (P n c k : Nat) (L : List Int) (a q : Nat) (rd : Option Nat) : go x D (lR x P n c k L a q) rd oY (rY x P n c k L a q) [] = some (.ret, pY x P n k, seenAs (rY x P n c k L a q) [] 2) := by kernel_rfl
theorem st {x : Nest} {D : DT} {P n c n1 : Nat} {rd : Option Nat} {s t : St} {o : List (Option Bool)} {σ : List Nat} {e : Exit} {p : Prop} {g : Nat → Option Ob} (hr : go x D s rd o t σ = some (e, p, seenAs t σ n1)) (hp : p) (hs : 1 ≤ s.next)
    (hh : t.heap = Tr.rebuild g t.next) (hk : picOk (lE x P n c) t σ n1 = true) : Step Try.prog rd (lE x P n c) lb s (fun e' t' => e' = e ∧ t' = t) :=
  Step.std sw.pg (KL_ok x D) hr hp hs hh hk
theorem sEN {x : Nest} (D : DT) {P n c : Nat} (rd : Option Nat) (hp : pN0 x P n 0) : Step Try.prog rd (lE x P n c) lb (lE x P n c) (fun e t => e = .normal ∧ t = lN x P n c (0 + 1)) := st (kEN x D P n c rd) hp (show 1 ≤ 1 by decide) (g := HN x) rfl (by kernel_rfl)
theorem sER {x : Nest} (D : DT) {P n c : Nat} (rd : Option Nat) (hp : pN1 x P n 0) : Step Try.prog rd (lE x P n c) lb (lE x P n c) (fun e t => e = .normal ∧ t = lR x P n c (0 + 1) (row0 x P 0) (len0 x P 0) (len0 x P 0)) := st (kER x D P n c rd) hp (show 1 ≤ 1 by decide) (g := HA x (row0 x P 0)) rfl (by kernel_rfl)
theorem sNN {x : Nest} (D : DT) {P n c k : Nat} (rd : Option Nat) (hp : pN0 x P n k) : Step Try.prog rd (lE x P n c) lb (lN x P n c k) (fun e t => e = .normal ∧ t = lN x P n c (k + 1)) := st (kNN x D P n c k rd) hp (show 1 ≤ 1 by decide) (g := HN x) rfl (by kernel_rfl)
theorem sNR {x : Nest} (D : DT) {P n c k : Nat} (rd : Option Nat) (hp : pN1 x P n k) : Step Try.prog rd (lE x P n c) lb (lN x P n c k) (fun e t => e = .normal ∧ t = lR x P n c (k + 1) (row0 x P k) (len0 x P k) (len0 x P k)) := st (kNR x D P n c k rd) hp (show 1 ≤ 1 by decide) (g := HA x (row0 x P k)) rfl (by kernel_rfl)
theorem sR0 {x : Nest} (D : DT) {P n c k : Nat} {L : List Int} {a q : Nat} (rd : Option Nat) (hp : pR0 x P n k L a q) : Step Try.prog rd (lE x P n c) lb (lR x P n c k L a q) (fun e t => e = .normal ∧ t = lR x P n c (k + 1) (g0 L a (row0 x P k)) (a + len0 x P k) q) := st (kR0 x D P n c k L a q rd) hp (show 1 ≤ 2 by decide) (g := HA x (g0 L a (row0 x P k))) rfl (by kernel_rfl)
theorem sR1 {x : Nest} (D : DT) {P n c k : Nat} {L : List Int} {a q : Nat} (rd : Option Nat) (hp : pR1 x P n k L a q) : Step Try.prog rd (lE x P n c) lb (lR x P n c k L a q) (fun e t => e = .normal ∧ t = lR x P n c (k + 1) (g1 L a (row0 x P k)) (a + len0 x P k) (a + len0 x P k)) := st (kR1 x D P n c k L a q rd) hp (show 1 ≤ 2 by decide) (g := HA x (g1 L a (row0 x P k))) rfl (by kernel_rfl)
theorem sNX {x : Nest} (D : DT) {P n c k : Nat} (rd : Option Nat) (hp : True ∧ decide (nI k < nI n) = false) : Step Try.prog rd (lE x P n c) lb (lN x P n c k) (fun e t => e = .exit 0 ∧ t = lN x P n c k) := st (kNX x D P n c k rd) hp (show 1 ≤ 1 by decide) (g := HN x) rfl (by kernel_rfl)
theorem sRX {x : Nest} (D : DT) {P n c k : Nat} {L : List Int} {a q : Nat} (rd : Option Nat) (hp : True ∧ decide (nI k < nI n) = false) : Step Try.prog rd (lE x P n c) lb (lR x P n c k L a q) (fun e t => e = .exit 0 ∧ t = lR x P n c k L a q) := st (kRX x D P n c k L a q rd) hp (show 1 ≤ 2 by decide) (g := HA x L) rfl (by kernel_rfl)
theorem sEY {x : Nest} (D : DT) {P n c : Nat} (rd : Option Nat) (hp : pY x P n 0) : Step Try.prog rd (lE x P n c) lb (lE x P n c) (fun e t => e = .ret ∧ t = eY x P n c) := st (kEY x D P n c rd) hp (show 1 ≤ 1 by decide) (g := HN x) rfl (by kernel_rfl)
theorem sNY {x : Nest} (D : DT) {P n c k : Nat} (rd : Option Nat) (hp : pY x P n k) : Step Try.prog rd (lE x P n c) lb (lN x P n c k) (fun e t => e = .ret ∧ t = nY x P n c k) := st (kNY x D P n c k rd) hp (show 1 ≤ 1 by decide) (g := HN x) rfl (by kernel_rfl)
theorem sRY {x : Nest} (D : DT) {P n c k : Nat} {L : List Int} {a q : Nat} (rd : Option Nat) (hp : pY x P n k) : Step Try.prog rd (lE x P n c) lb (lR x P n c k L a q) (fun e t => e = .ret ∧ t = rY x P n c k L a q) := st (kRY x D P n c k L a q rd) hp (show 1 ≤ 2 by decide) (g := HA x L) rfl (by kernel_rfl)
end
end na
end Go.Proofs.Yteknepfcbpoooaa
