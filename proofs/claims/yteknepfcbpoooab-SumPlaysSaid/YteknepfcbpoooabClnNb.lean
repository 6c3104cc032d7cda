/- Read off the code by the clean reading. -/
import Derived.Test.YteknepfcbpoooabClnNa
set_option linter.unusedVariables false
set_option linter.unusedSimpArgs false
set_option linter.deprecated false
set_option maxRecDepth 100000
namespace Go.Proofs.Yteknepfcbpoooab
open Go.ChangeShapes Go.WideShapes Go.ChangeAt Go.RowKit Go.Cln
namespace pb
open pa (S ix ix_eq K0 K0_ok fk)
set_option linter.unusedVariables false
noncomputable section
def lb : Code := loopB Try.prog 10 0
def nul : Value := .slice none 0 0
def hd (P n c : Nat) (all : Value) (k : Int) : List Value := [S P n c, undef, nul, .bool false, all, .int .i64 k, S P n c, .int .i64 (nI n), .bool false]
def HN (x : Nest) : Nat → Option Ob := fun i => match i with
  | 0 => some (.fam x.F)
  | _ => none
def HA (x : Nest) (L : List Int) : Nat → Option Ob := fun i => match i with
  | 0 => some (.fam x.F)
  | 1 => some (.cells (.ints .u8 L) 5)
  | _ => none
def lE (x : Nest) (P n c : Nat) : St := ⟨hd P n c nul 0 ++ U 19, [], Tr.rebuild (HN x) 1, 1, 1, [], fun _ => false, True, []⟩
def lN (x : Nest) (P n c k : Nat) : St := ⟨hd P n c nul (nI k) ++ (J 18 ++ U 1), [], Tr.rebuild (HN x) 1, 1, 1, [], fun _ => false, True, []⟩
def lR (x : Nest) (P n c k : Nat) (L : List Int) (a q : Nat) : St := ⟨hd P n c (.slice (some ⟨1, 0, some 1⟩) a q) (nI k) ++ (J 18 ++ U 1), [], Tr.rebuild (HA x L) 2, 2, 1, [], fun _ => false, True, []⟩
def row0 (x : Nest) (P k : Nat) : List Int := x.row P (ix k)
def len0 (x : Nest) (P k : Nat) : Nat := x.m P (ix k)
/-- what a round asks ahead of its append -/
def pA (x : Nest) (P n k : Nat) : Prop := (((((True ∧ decide (nI k < nI n) = true) ∧ (0 ≤ nI k ∧ nI k < nI n)) ∧ ix k < x.N P) ∧ decide (nI (len0 x P k) > 300) = false) ∧ (0 ≤ nI k ∧ nI k < nI n)) ∧ ix k < x.N P
def q1 (x : Nest) (P k : Nat) : Prop := len0 x P k = 0 ∨ 0 + len0 x P k ≤ (x.D (x.Q P (ix k))).length
def pN0 (x : Nest) (P n k : Nat) : Prop := ((pA x P n k ∧ decide (len0 x P k = 0) = true) ∧ ((0 : Nat) = 0 ∧ (0 : Nat) = 0 ∧ q1 x P k)) ∧ fk k
def pN1 (x : Nest) (P n k : Nat) : Prop := ((pA x P n k ∧ decide (len0 x P k = 0) = false) ∧ ((0 : Nat) = 0 ∧ (0 : Nat) = 0 ∧ q1 x P k ∧ len0 x P k * 1 ≤ mostBytes ∧ len0 x P k ≤ mostBytes)) ∧ fk k
def pR0 (x : Nest) (P n k : Nat) (L : List Int) (a q : Nat) : Prop := ((pA x P n k ∧ decide (a + len0 x P k ≤ q) = true) ∧ (q1 x P k ∧ 0 + a + len0 x P k ≤ L.length)) ∧ fk k
def pR1 (x : Nest) (P n k : Nat) (L : List Int) (a q : Nat) : Prop := ((pA x P n k ∧ decide (a + len0 x P k ≤ q) = false) ∧ (q1 x P k ∧ 0 + a ≤ L.length ∧ (a + len0 x P k) * 1 ≤ mostBytes ∧ a + len0 x P k ≤ mostBytes)) ∧ fk k
def oA (b : Bool) : List (Option Bool) := [some true, some true, some true, some false, some true, some true, some b, some true]
def go (x : Nest) (s : St) (rd : Option Nat) (o : List (Option Bool)) (t : St) (σ : List Nat) : Option (Exit × Prop × Seen) := ((mk Try.prog K0 200).code 10 rd lb { s with obl := True, orc := o }).map (fun r => (r.1, r.2.obl, seenIn r.2 t σ))
def g0 (L : List Int) (a : Nat) (r : List Int) : List Int := layI L (0 + a) r
def g1 (L : List Int) (a : Nat) (r : List Int) : List Int := (L.drop 0).take a ++ r
theorem kEN (x : Nest) (P n c : Nat) (rd : Option Nat) : go x (lE x P n c) rd (oA true) (lN x P n c (0 + 1)) [] = some (.normal, pN0 x P n 0, seenAs (lN x P n c (0 + 1)) [] 1) := by kernel_rfl
theorem kER (x : Nest) (P n c : Nat) (rd : Option Nat) : go x (lE x P n c) rd (oA false) (lR x P n c (0 + 1) (row0 x P 0) (len0 x P 0) (len0 x P 0)) [] = some (.normal, pN1 x P n 0, seenAs (lR x P n c (0 + 1) (row0 x P 0) (len0 x P 0) (len0 x P 0)) [] 2) := by kernel_rfl
theorem kNN (x : Nest) (P n c k : Nat) (rd : Option Nat) : go x (lN x P n c k) rd (oA true) (lN x P n c (k + 1)) [] = some (.normal, pN0 x P n k, seenAs (lN x P n c (k + 1)) [] 1) := by kernel_rfl
theorem kNR (x : Nest) (P n c k : Nat) (rd : Option Nat) : go x (lN x P n c k) rd (oA false) (lR x P n c (k + 1) (row0 x P k) (len0 x P k) (len0 x P k)) [] = some (.normal, pN1 x P n k, seenAs (lR x P n c (k + 1) (row0 x P k) (len0 x P k) (len0 x P k)) [] 2) := by kernel_rfl
theorem kR0 (x : Nest) (P n c k : Nat) (L : List Int) (a q : Nat) (rd : Option Nat) : go x (lR x P n c k L a q) rd (oA true) (lR x P n c (k + 1) (g0 L a (row0 x P k)) (a + len0 x P k) q) [] = some (.normal, pR0 x P n k L a q, seenAs (lR x P n c (k + 1) (g0 L a (row0 x P k)) (a + len0 x P k) q) [] 2) := by kernel_rfl
theorem kR1 (x : Nest) (P n c k : Nat) (L : List Int) (a q : Nat) (rd : Option Nat) : go x (lR x P n c k L a q) rd (oA false) (lR x P n c (k + 1) (g1 L a (row0 x P k)) (a + len0 x P k) (a + len0 x P k)) [0, 2] = some (.normal, pR1 x P n k L a q, seenAs (lR x P n c (k + 1) (g1 L a (row0 x P k)) (a + len0 x P k) (a + len0 x P k)) [0, 2] 3) := by kernel_rfl
theorem kNX (x : Nest) (P n c k : Nat) (rd : Option Nat) : go x (lN x P n c k) rd [some false] (lN x P n c k) [] = some (.exit 0, True ∧ decide (nI k < nI n) = false, seenAs (lN x P n c k) [] 1) := by kernel_rfl
theorem kRX (x : Nest) (P n c k : Nat) (L : List Int) (a q : Nat) (rd : Option Nat) : go x (lR x P n c k L a q) rd [some false] (lR x P n c k L a q) [] = some (.exit 0, True ∧ decide (nI k < nI n) = false, seenAs (lR x P n c k L a q) [] 2) := by kernel_rfl
def eY (x : Nest) (P n c : Nat) : St := ⟨hd P n c nul 0 ++ (J 4 ++ (U 2 ++ (J 6 ++ U 7))), [], Tr.rebuild (HN x) 1, 1, 1, [], fun _ => false, True, []⟩
def nY (x : Nest) (P n c k : Nat) : St := ⟨hd P n c nul (nI k) ++ (J 18 ++ U 1), [], Tr.rebuild (HN x) 1, 1, 1, [], fun _ => false, True, []⟩
def rY (x : Nest) (P n c k : Nat) (L : List Int) (a q : Nat) : St := ⟨hd P n c (.slice (some ⟨1, 0, some 1⟩) a q) (nI k) ++ (J 18 ++ U 1), [], Tr.rebuild (HA x L) 2, 2, 1, [], fun _ => false, True, []⟩
def oY : List (Option Bool) := [some true, some true, some true, some true]
def pY (x : Nest) (P n k : Nat) : Prop := ((((True ∧ decide (nI k < nI n) = true) ∧ (0 ≤ nI k ∧ nI k < nI n)) ∧ ix k < x.N P) ∧ decide (nI (len0 x P k) > 300) = true)
theorem kEY (x : Nest) (P n c : Nat) (rd : Option Nat) : go x (lE x P n c) rd oY (eY x P n c) [] = some (.ret, pY x P n 0, seenAs (eY x P n c) [] 1) := by kernel_rfl
theorem kNY (x : Nest) (P n c k : Nat) (rd : Option Nat) : go x (lN x P n c k) rd oY (nY x P n c k) [] = some (.ret, pY x P n k, seenAs (nY x P n c k) [] 1) := by kernel_rfl
theorem kRY (x : Nest) (P n c k : Nat) (L : List Int) (a q : Nat) (rd : Option Nat) : go x (lR x P n c k L a q) rd oY (rY x P n c k L a q) [] = some (.ret, pY x P n k, seenAs (rY x P n c k L a q) [] 2) := by kernel_rfl
theorem st {x : Nest} {P n c n1 : Nat} {rd : Option Nat} {s t : St} {o : List (Option Bool)} {σ : List Nat} {e : Exit} {p : Prop} {g : Nat → Option Ob} (hr : go x s rd o t σ = some (e, p, seenAs t σ n1)) (hp : p) (hs : 1 ≤ s.next)
    (hh : t.heap = Tr.rebuild g t.next) (hk : picOk (lE x P n c) t σ n1 = true) : Step Try.prog rd (lE x P n c) lb s (fun e' t' => e' = e ∧ t' = t) :=
  Step.std sr.pg (K0_ok) hr hp hs hh hk
theorem sEN {x : Nest} {P n c : Nat} (rd : Option Nat) (hp : pN0 x P n 0) : Step Try.prog rd (lE x P n c) lb (lE x P n c) (fun e t => e = .normal ∧ t = lN x P n c (0 + 1)) := st (kEN x P n c rd) hp (show 1 ≤ 1 by decide) (g := HN x) rfl (by kernel_rfl)
theorem sER {x : Nest} {P n c : Nat} (rd : Option Nat) (hp : pN1 x P n 0) : Step Try.prog rd (lE x P n c) lb (lE x P n c) (fun e t => e = .normal ∧ t = lR x P n c (0 + 1) (row0 x P 0) (len0 x P 0) (len0 x P 0)) := st (kER x P n c rd) hp (show 1 ≤ 1 by decide) (g := HA x (row0 x P 0)) rfl (by kernel_rfl)
theorem sNN {x : Nest} {P n c k : Nat} (rd : Option Nat) (hp : pN0 x P n k) : Step Try.prog rd (lE x P n c) lb (lN x P n c k) (fun e t => e = .normal ∧ t = lN x P n c (k + 1)) := st (kNN x P n c k rd) hp (show 1 ≤ 1 by decide) (g := HN x) rfl (by kernel_rfl)
theorem sNR {x : Nest} {P n c k : Nat} (rd : Option Nat) (hp : pN1 x P n k) : Step Try.prog rd (lE x P n c) lb (lN x P n c k) (fun e t => e = .normal ∧ t = lR x P n c (k + 1) (row0 x P k) (len0 x P k) (len0 x P k)) := st (kNR x P n c k rd) hp (show 1 ≤ 1 by decide) (g := HA x (row0 x P k)) rfl (by kernel_rfl)
theorem sR0 {x : Nest} {P n c k : Nat} {L : List Int} {a q : Nat} (rd : Option Nat) (hp : pR0 x P n k L a q) : Step Try.prog rd (lE x P n c) lb (lR x P n c k L a q) (fun e t => e = .normal ∧ t = lR x P n c (k + 1) (g0 L a (row0 x P k)) (a + len0 x P k) q) := st (kR0 x P n c k L a q rd) hp (show 1 ≤ 2 by decide) (g := HA x (g0 L a (row0 x P k))) rfl (by kernel_rfl)
theorem sR1 {x : Nest} {P n c k : Nat} {L : List Int} {a q : Nat} (rd : Option Nat) (hp : pR1 x P n k L a q) : Step Try.prog rd (lE x P n c) lb (lR x P n c k L a q) (fun e t => e = .normal ∧ t = lR x P n c (k + 1) (g1 L a (row0 x P k)) (a + len0 x P k) (a + len0 x P k)) := st (kR1 x P n c k L a q rd) hp (show 1 ≤ 2 by decide) (g := HA x (g1 L a (row0 x P k))) rfl (by kernel_rfl)
theorem sNX {x : Nest} {P n c k : Nat} (rd : Option Nat) (hp : True ∧ decide (nI k < nI n) = false) : Step Try.prog rd (lE x P n c) lb (lN x P n c k) (fun e t => e = .exit 0 ∧ t = lN x P n c k) := st (kNX x P n c k rd) hp (show 1 ≤ 1 by decide) (g := HN x) rfl (by kernel_rfl)
theorem sRX {x : Nest} {P n c k : Nat} {L : List Int} {a q : Nat} (rd : Option Nat) (hp : True ∧ decide (nI k < nI n) = false) : Step Try.prog rd (lE x P n c) lb (lR x P n c k L a q) (fun e t => e = .exit 0 ∧ t = lR x P n c k L a q) := st (kRX x P n c k L a q rd) hp (show 1 ≤ 2 by decide) (g := HA x L) rfl (by kernel_rfl)
theorem sEY {x : Nest} {P n c : Nat} (rd : Option Nat) (hp : pY x P n 0) : Step Try.prog rd (lE x P n c) lb (lE x P n c) (fun e t => e = .ret ∧ t = eY x P n c) := st (kEY x P n c rd) hp (show 1 ≤ 1 by decide) (g := HN x) rfl (by kernel_rfl)
theorem sNY {x : Nest} {P n c k : Nat} (rd : Option Nat) (hp : pY x P n k) : Step Try.prog rd (lE x P n c) lb (lN x P n c k) (fun e t => e = .ret ∧ t = nY x P n c k) := st (kNY x P n c k rd) hp (show 1 ≤ 1 by decide) (g := HN x) rfl (by kernel_rfl)
theorem sRY {x : Nest} {P n c k : Nat} {L : List Int} {a q : Nat} (rd : Option Nat) (hp : pY x P n k) : Step Try.prog rd (lE x P n c) lb (lR x P n c k L a q) (fun e t => e = .ret ∧ t = rY x P n c k L a q) := st (kRY x P n c k L a q rd) hp (show 1 ≤ 2 by decide) (g := HA x L) rfl (by kernel_rfl)
/-- what has been put together: nothing, or bytes, how many count, the room -/
def stA (x : Nest) (P : Nat) : Nat → Option (List Int × Nat × Nat)
  | 0 => none
  | k + 1 => match stA x P k with
    | none => if len0 x P k = 0 then none else some (row0 x P k, len0 x P k, len0 x P k)
    | some (L, a, q) => if a + len0 x P k ≤ q then some (g0 L a (row0 x P k), a + len0 x P k, q) else some (g1 L a (row0 x P k), a + len0 x P k, a + len0 x P k)
def AOk (x : Nest) (P k : Nat) : Option (List Int × Nat × Nat) → Prop
  | none => x.cat P k = []
  | some (L, a, q) => a = (x.cat P k).length ∧ L.take a = x.cat P k ∧ a ≤ q ∧ q ≤ L.length ∧ 0 < a
theorem len0_eq (x : Nest) (P k : Nat) : len0 x P k = x.m P k := by unfold len0; rw [ix_eq]
theorem row0_eq (x : Nest) (P k : Nat) : row0 x P k = x.row P k := by unfold row0; rw [ix_eq]
theorem stA_ok {x : Nest} {P : Nat} (h : x.Ok P) : ∀ k, k ≤ x.N P → AOk x P k (stA x P k)
  | 0, _ => rfl
  | k + 1, hk => by
    have ih := stA_ok h k (by omega)
    have hr : (x.row P k).length = x.m P k := h.len k (by omega)
    simp only [stA]
    rw [len0_eq, row0_eq]
    cases hs : stA x P k with
    | none =>
      rw [hs] at ih
      have ih : x.cat P k = [] := ih
      simp only
      split
      · rename_i h0
        have : x.row P k = [] := List.eq_nil_of_length_eq_zero (by omega)
        show x.cat P k ++ x.row P k = []
        rw [ih, this]; rfl
      · rename_i h0
        show x.m P k = (x.cat P k ++ x.row P k).length ∧ (x.row P k).take (x.m P k) = x.cat P k ++ x.row P k ∧ _
        rw [ih, List.nil_append]
        exact ⟨hr.symm, List.take_of_length_le (by omega), Nat.le_refl _, by omega, by omega⟩
    | some t =>
      obtain ⟨L, a, q⟩ := t
      rw [hs] at ih
      obtain ⟨i1, i2, i3, i4, i5⟩ := ih
      have hl : (x.cat P k ++ x.row P k).length = a + x.m P k := by rw [List.length_append, ← i1, hr]
      have ht : (L.take a).length = a := by rw [List.length_take]; omega
      simp only
      split
      · rename_i hq
        refine ⟨hl.symm, ?_, hq, ?_, by omega⟩
        · show (g0 L a (x.row P k)).take (a + x.m P k) = x.cat P k ++ x.row P k
          unfold g0 layI
          rw [Nat.zero_add, i2, ← List.append_assoc]
          exact List.take_left' hl
        · unfold g0 layI
          rw [Nat.zero_add]
          simp only [List.length_append, List.length_take, List.length_drop]
          omega
      · have e : g1 L a (x.row P k) = x.cat P k ++ x.row P k := by unfold g1; rw [List.drop_zero, i2]
        rw [e]
        exact ⟨hl.symm, List.take_of_length_le (by omega), Nat.le_refl _, by omega, by omega⟩
def noS (x : Nest) (P n c : Nat) : Nat → St
  | 0 => lE x P n c
  | k + 1 => lN x P n c (k + 1)
def noY (x : Nest) (P n c : Nat) : Nat → St
  | 0 => eY x P n c
  | k + 1 => nY x P n c (k + 1)
def stS (x : Nest) (P n c k : Nat) : St := match stA x P k with
  | none => noS x P n c k
  | some (L, a, q) => lR x P n c k L a q
def stY (x : Nest) (P n c k : Nat) : St := match stA x P k with
  | none => noY x P n c k
  | some (L, a, q) => rY x P n c k L a q
theorem q1_of {x : Nest} {P k : Nat} (h : x.Ok P) (hk : k < x.N P) : q1 x P k := by
  have hr : (x.row P k).length = x.m P k := h.len k hk
  unfold q1
  rw [len0_eq, ix_eq]
  unfold Nest.row at hr
  rw [List.drop_zero, List.length_take] at hr
  omega
theorem pA_of {x : Nest} {P n k : Nat} (h : x.Ok P) (hn : n ≤ x.N P) (hk : k < n) (hm : x.m P k ≤ 300) : pA x P n k := by
  unfold pA
  rw [len0_eq, ix_eq]
  simp only [nI, decide_eq_true_eq, decide_eq_false_iff_not]
  refine ⟨⟨⟨⟨⟨⟨trivial, by omega⟩, by omega⟩, by omega⟩, by omega⟩, by omega⟩, by omega⟩
theorem fk_of {k : Nat} (h : k < 1000) : fk k := by unfold fk; simp only [nI]; rw [IntKind.wrap_i64]; omega
theorem step {x : Nest} {P n c k : Nat} (h : x.Ok P) (hn : n ≤ x.N P) (h30 : n ≤ 30) (hk : k < n) (hm : ∀ i, i ≤ k → x.m P i ≤ 300) (rd : Option Nat) :
    Step Try.prog rd (lE x P n c) lb (stS x P n c k) (fun e t => e = .normal ∧ t = stS x P n c (k + 1)) := by
  have hA := pA_of h hn hk (hm k (Nat.le_refl _))
  have hq := q1_of (k := k) h (by omega)
  have hf := fk_of (k := k) (by omega)
  have hmk := hm k (Nat.le_refl _)
  have hok := stA_ok h k (by omega)
  have hlen := Nest.cat_len (B := 300) h k (by omega) fun i hi => hm i (by omega)
  have e1 : stS x P n c (k + 1) = match stA x P k with
    | none => if len0 x P k = 0 then lN x P n c (k + 1) else lR x P n c (k + 1) (row0 x P k) (len0 x P k) (len0 x P k)
    | some (L, a, q) => if a + len0 x P k ≤ q then lR x P n c (k + 1) (g0 L a (row0 x P k)) (a + len0 x P k) q else lR x P n c (k + 1) (g1 L a (row0 x P k)) (a + len0 x P k) (a + len0 x P k) := by
    unfold stS
    simp only [stA]
    cases stA x P k with
    | none => by_cases h0 : len0 x P k = 0 <;> simp only [h0, if_true, if_false, noS]
    | some t => obtain ⟨L, a, q⟩ := t; by_cases h0 : a + len0 x P k ≤ q <;> simp only [h0, if_true, if_false]
  rw [e1]
  cases hs : stA x P k with
  | none =>
    have e0 : stS x P n c k = noS x P n c k := by unfold stS; rw [hs]
    rw [e0]
    simp only
    by_cases h0 : len0 x P k = 0
    · rw [if_pos h0]
      have hp : pN0 x P n k := ⟨⟨⟨hA, by rw [decide_eq_true_eq]; exact h0⟩, rfl, rfl, hq⟩, hf⟩
      cases k with
      | zero => exact sEN rd hp
      | succ k => exact sNN rd hp
    · rw [if_neg h0]
      have hp : pN1 x P n k := ⟨⟨⟨hA, by rw [decide_eq_false_iff_not]; exact h0⟩, rfl, rfl, hq, by rw [len0_eq]; unfold mostBytes; omega, by rw [len0_eq]; unfold mostBytes; omega⟩, hf⟩
      cases k with
      | zero => exact sER rd hp
      | succ k => exact sNR rd hp
  | some t =>
    obtain ⟨L, a, q⟩ := t
    have e0 : stS x P n c k = lR x P n c k L a q := by unfold stS; rw [hs]
    rw [e0]
    rw [hs] at hok
    obtain ⟨i1, i2, i3, i4, i5⟩ := hok
    have hr : (x.row P k).length = x.m P k := h.len k (by omega)
    simp only
    by_cases h0 : a + len0 x P k ≤ q
    · rw [if_pos h0]
      exact sR0 rd ⟨⟨⟨hA, by rw [decide_eq_true_eq]; exact h0⟩, hq, by omega⟩, hf⟩
    · rw [if_neg h0]
      exact sR1 rd ⟨⟨⟨hA, by rw [decide_eq_false_iff_not]; exact h0⟩, hq, by omega, by rw [len0_eq]; unfold mostBytes; omega, by rw [len0_eq]; unfold mostBytes; omega⟩, hf⟩
theorem loopX {x : Nest} {P n c : Nat} (h : x.Ok P) (hn : n ≤ x.N P) (h30 : n ≤ 30) (h0 : 0 < n) (hm : ∀ i, i < n → x.m P i ≤ 300) (rd : Option Nat) :
    CodeOk Try.prog rd (.loop lb) (lE x P n c) (.exit 0) (stS x P n c n) := by
  refine CodeOk.of_step (Step.loop (fun g t => ∃ j, j ≤ n ∧ g = n - j ∧ t = stS x P n c j) ?_ n _ ⟨0, by omega, by omega, rfl⟩)
  rintro g t ⟨j, g2, rfl, rfl⟩
  by_cases hj : j = n
  · subst hj
    have hp : True ∧ decide (nI j < nI j) = false := ⟨trivial, by simp only [nI, decide_eq_false_iff_not]; omega⟩
    have key : Step Try.prog rd (lE x P j c) lb (stS x P j c j) (fun e t => e = .exit 0 ∧ t = stS x P j c j) := by
      unfold stS
      cases stA x P j with
      | none =>
        cases j with
        | zero => omega
        | succ j => exact sNX rd hp
      | some t => obtain ⟨L, a, q⟩ := t; exact sRX rd hp
    refine key.mono ?_
    rintro e' t ⟨rfl, rfl⟩
    exact .inr ⟨(by intro x; cases x), rfl, rfl⟩
  · refine (step h hn h30 (by omega) (fun i hi => hm i (by omega)) rd).mono ?_
    rintro e' t ⟨rfl, rfl⟩
    exact .inl ⟨rfl, n - (j + 1), by omega, j + 1, by omega, rfl, rfl⟩
theorem loopY {x : Nest} {P n c k : Nat} (h : x.Ok P) (hn : n ≤ x.N P) (h30 : n ≤ 30) (hk : k < n) (hm : ∀ i, i < k → x.m P i ≤ 300) (hbig : 300 < x.m P k) (rd : Option Nat) :
    CodeOk Try.prog rd (.loop lb) (lE x P n c) .ret (stY x P n c k) := by
  refine CodeOk.of_step (Step.loop (fun g t => ∃ j, j ≤ k ∧ g = k - j ∧ t = stS x P n c j) ?_ k _ ⟨0, by omega, by omega, rfl⟩)
  rintro g t ⟨j, g2, rfl, rfl⟩
  by_cases hj : j = k
  · subst hj
    have hp : pY x P n j := by
      unfold pY
      rw [len0_eq, ix_eq]
      simp only [nI, decide_eq_true_eq]
      exact ⟨⟨⟨⟨trivial, by omega⟩, by omega⟩, by omega⟩, by omega⟩
    have key : Step Try.prog rd (lE x P n c) lb (stS x P n c j) (fun e t => e = .ret ∧ t = stY x P n c j) := by
      unfold stS stY
      cases stA x P j with
      | none =>
        cases j with
        | zero => exact sEY rd hp
        | succ j => exact sNY rd hp
      | some t => obtain ⟨L, a, q⟩ := t; exact sRY rd hp
    refine key.mono ?_
    rintro e' t ⟨rfl, rfl⟩
    exact .inr ⟨(by intro x; cases x), rfl, rfl⟩
  · refine (step h hn h30 (by omega) (fun i hi => hm i (by omega)) rd).mono ?_
    rintro e' t ⟨rfl, rfl⟩
    exact .inl ⟨rfl, k - (j + 1), by omega, j + 1, by omega, rfl, rfl⟩
theorem first {p : Nat → Prop} [DecidablePred p] : ∀ n, (∀ i, i < n → p i) ∨ ∃ k, k < n ∧ ¬ p k ∧ ∀ i, i < k → p i
  | 0 => .inl fun i hi => by omega
  | n + 1 => by
    rcases first (p := p) n with h | ⟨k, h1, h2, h3⟩
    · by_cases hp : p n
      · exact .inl fun i hi => by
          rcases Nat.lt_or_ge i n with h4 | h4
          · exact h i h4
          · have : i = n := by omega
            rw [this]; exact hp
      · exact .inr ⟨n, by omega, hp, h⟩
    · exact .inr ⟨k, by omega, h2, h3⟩
end
end pb
end Go.Proofs.Yteknepfcbpoooab
