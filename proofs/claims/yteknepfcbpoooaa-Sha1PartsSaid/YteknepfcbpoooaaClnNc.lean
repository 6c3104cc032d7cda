/- Read off the code by the clean reading. -/
import Derived.Test.YteknepfcbpoooaaClnNb
import Derived.Test.YteknepfcbpoooaaClnQd
set_option linter.unusedVariables false
set_option linter.unusedSimpArgs false
set_option linter.deprecated false
set_option maxRecDepth 100000
namespace Go.Proofs.Yteknepfcbpoooaa
open Go.ChangeShapes Go.WideShapes Go.ChangeAt Go.RowKit Go.Cln
namespace na
open hc hx hy hz tb
set_option linter.unusedVariables false
noncomputable section
/-- what has been put together: nothing, or bytes, how many count, the room -/
def stA (x : Nest) (P : Nat) : Nat → Option (List Int × Nat × Nat)
  | 0 => none
  | k + 1 => match stA x P k with
    | none => if len0 x P k = 0 then none else some (row0 x P k, len0 x P k, len0 x P k)
    | some (L, a, q) => if a + len0 x P k ≤ q then some (g0 L a (row0 x P k), a + len0 x P k, q) else some (g1 L a (row0 x P k), a + len0 x P k, a + len0 x P k)
def AOk (x : Nest) (P k : Nat) : Option (List Int × Nat × Nat) → Prop
  | none => x.cat P k = []
  | some (L, a, q) => a = (x.cat P k).length ∧ L.take a = x.cat P k ∧ a ≤ q ∧ q ≤ L.length ∧ 0 < a
theorem len0_eq (x : Nest) (P k : Nat) : len0 x P k = x.m P k := by unfold len0; rw [ix_eq]
theorem row0_eq (x : Nest) (P k : Nat) : row0 x P k = x.row P k := by unfold row0; rw [ix_eq]
theorem stA_ok {x : Nest} {P : Nat} (h : x.Ok P) : ∀ k, k ≤ x.N P → AOk x P k (stA x P k)
  | 0, _ => rfl
  | k + 1, hk => by
    have ih := stA_ok h k (by omega)
    have hr : (x.row P k).length = x.m P k := h.len k (by omega)
    simp only [stA]
    rw [len0_eq, row0_eq]
    cases hs : stA x P k with
    | none =>
      rw [hs] at ih
      have ih : x.cat P k = [] := ih
      simp only
      split
      · rename_i h0
        have : x.row P k = [] := List.eq_nil_of_length_eq_zero (by omega)
        show x.cat P k ++ x.row P k = []
        rw [ih, this]; rfl
      · rename_i h0
        show x.m P k = (x.cat P k ++ x.row P k).length ∧ (x.row P k).take (x.m P k) = x.cat P k ++ x.row P k ∧ _
        rw [ih, List.nil_append]
        exact ⟨hr.symm, List.take_of_length_le (by omega), Nat.le_refl _, by omega, by omega⟩
    | some t =>
      obtain ⟨L, a, q⟩ := t
      rw [hs] at ih
      obtain ⟨i1, i2, i3, i4, i5⟩ := ih
      have hl : (x.cat P k ++ x.row P k).length = a + x.m P k := by rw [List.length_append, ← i1, hr]
      have ht : (L.take a).length = a := by rw [List.length_take]; omega
      simp only
      split
      · rename_i hq
        refine ⟨hl.symm, ?_, hq, ?_, by omega⟩
        · show (g0 L a (x.row P k)).take (a + x.m P k) = x.cat P k ++ x.row P k
          unfold g0 layI
          rw [Nat.zero_add, i2, ← List.append_assoc]
          exact List.take_left' hl
        · unfold g0 layI
          rw [Nat.zero_add]
          simp only [List.length_append, List.length_take, List.length_drop]
          omega
      · have e : g1 L a (x.row P k) = x.cat P k ++ x.row P k := by unfold g1; rw [List.drop_zero, i2]
        rw [e]
        exact ⟨hl.symm, List.take_of_length_le (by omega), Nat.le_refl _, by omega, by omega⟩
def noS (x : Nest) (P n c : Nat) : Nat → St
  | 0 => lE x P n c
  | k + 1 => lN x P n c (k + 1)
def noY (x : Nest) (P n c : Nat) : Nat → St
  | 0 => eY x P n c
  | k + 1 => nY x P n c (k + 1)
def stS (x : Nest) (P n c k : Nat) : St := match stA x P k with
  | none => noS x P n c k
  | some (L, a, q) => lR x P n c k L a q
def stY (x : Nest) (P n c k : Nat) : St := match stA x P k with
  | none => noY x P n c k
  | some (L, a, q) => rY x P n c k L a q
theorem q1_of {x : Nest} {P k : Nat} (h : x.Ok P) (hk : k < x.N P) : q1 x P k := by
  have hr : (x.row P k).length = x.m P k := h.len k hk
  unfold q1
  rw [len0_eq, ix_eq]
  unfold Nest.row at hr
  rw [List.drop_zero, List.length_take] at hr
  omega
theorem pA_of {x : Nest} {P n k : Nat} (h : x.Ok P) (hn : n ≤ x.N P) (hk : k < n) (hm : x.m P k ≤ 300) : pA x P n k := by
  unfold pA
  rw [len0_eq, ix_eq]
  simp only [nI, decide_eq_true_eq, decide_eq_false_iff_not]
  refine ⟨⟨⟨⟨⟨⟨trivial, by omega⟩, by omega⟩, by omega⟩, by omega⟩, by omega⟩, by omega⟩
theorem fk_of {k : Nat} (h : k < 1000) : fk k := by unfold fk; simp only [nI]; rw [IntKind.wrap_i64]; omega
theorem step {x : Nest} (D : DT) {P n c k : Nat} (h : x.Ok P) (hn : n ≤ x.N P) (h30 : n ≤ 30) (hk : k < n) (hm : ∀ i, i ≤ k → x.m P i ≤ 300) (rd : Option Nat) :
    Step Try.prog rd (lE x P n c) lb (stS x P n c k) (fun e t => e = .normal ∧ t = stS x P n c (k + 1)) := by
  have hA := pA_of h hn hk (hm k (Nat.le_refl _))
  have hq := q1_of (k := k) h (by omega)
  have hf := fk_of (k := k) (by omega)
  have hmk := hm k (Nat.le_refl _)
  have hok := stA_ok h k (by omega)
  have hlen := Nest.cat_len (B := 300) h k (by omega) fun i hi => hm i (by omega)
  have e1 : stS x P n c (k + 1) = match stA x P k with
    | none => if len0 x P k = 0 then lN x P n c (k + 1) else lR x P n c (k + 1) (row0 x P k) (len0 x P k) (len0 x P k)
    | some (L, a, q) => if a + len0 x P k ≤ q then lR x P n c (k + 1) (g0 L a (row0 x P k)) (a + len0 x P k) q else lR x P n c (k + 1) (g1 L a (row0 x P k)) (a + len0 x P k) (a + len0 x P k) := by
    unfold stS
    simp only [stA]
    cases stA x P k with
    | none => by_cases h0 : len0 x P k = 0 <;> simp only [h0, if_true, if_false, noS]
    | some t => obtain ⟨L, a, q⟩ := t; by_cases h0 : a + len0 x P k ≤ q <;> simp only [h0, if_true, if_false]
  rw [e1]
  cases hs : stA x P k with
  | none =>
    have e0 : stS x P n c k = noS x P n c k := by unfold stS; rw [hs]
    rw [e0]
    simp only
    by_cases h0 : len0 x P k = 0
    · rw [if_pos h0]
      have hp : pN0 x P n k := ⟨⟨⟨hA, by rw [decide_eq_true_eq]; exact h0⟩, rfl, rfl, hq⟩, hf⟩
      cases k with
      | zero => exact sEN D rd hp
      | succ k => exact sNN D rd hp
    · rw [if_neg h0]
      have hp : pN1 x P n k := ⟨⟨⟨hA, by rw [decide_eq_false_iff_not]; exact h0⟩, rfl, rfl, hq, by rw [len0_eq]; unfold mostBytes; omega, by rw [len0_eq]; unfold mostBytes; omega⟩, hf⟩
      cases k with
      | zero => exact sER D rd hp
      | succ k => exact sNR D rd hp
  | some t =>
    obtain ⟨L, a, q⟩ := t
    have e0 : stS x P n c k = lR x P n c k L a q := by unfold stS; rw [hs]
    rw [e0]
    rw [hs] at hok
    obtain ⟨i1, i2, i3, i4, i5⟩ := hok
    have hr : (x.row P k).length = x.m P k := h.len k (by omega)
    simp only
    by_cases h0 : a + len0 x P k ≤ q
    · rw [if_pos h0]
      exact sR0 D rd ⟨⟨⟨hA, by rw [decide_eq_true_eq]; exact h0⟩, hq, by omega⟩, hf⟩
    · rw [if_neg h0]
      exact sR1 D rd ⟨⟨⟨hA, by rw [decide_eq_false_iff_not]; exact h0⟩, hq, by omega, by rw [len0_eq]; unfold mostBytes; omega, by rw [len0_eq]; unfold mostBytes; omega⟩, hf⟩
end
end na
end Go.Proofs.Yteknepfcbpoooaa
namespace Go.Proofs.Yteknepfcbpoooaa
open Go.ChangeShapes Go.WideShapes Go.ChangeAt Go.RowKit Go.Cln
namespace na
open hc hx hy hz tb
set_option linter.unusedVariables false
noncomputable section
theorem loopX {x : Nest} (D : DT) {P n c : Nat} (h : x.Ok P) (hn : n ≤ x.N P) (h30 : n ≤ 30) (h0 : 0 < n) (hm : ∀ i, i < n → x.m P i ≤ 300) (rd : Option Nat) :
    CodeOk Try.prog rd (.loop lb) (lE x P n c) (.exit 0) (stS x P n c n) := by
  refine CodeOk.of_step (Step.loop (fun g t => ∃ j, j ≤ n ∧ g = n - j ∧ t = stS x P n c j) ?_ n _ ⟨0, by omega, by omega, rfl⟩)
  rintro g t ⟨j, g2, rfl, rfl⟩
  by_cases hj : j = n
  · subst hj
    have hp : True ∧ decide (nI j < nI j) = false := ⟨trivial, by simp only [nI, decide_eq_false_iff_not]; omega⟩
    have key : Step Try.prog rd (lE x P j c) lb (stS x P j c j) (fun e t => e = .exit 0 ∧ t = stS x P j c j) := by
      unfold stS
      cases stA x P j with
      | none =>
        cases j with
        | zero => omega
        | succ j => exact sNX D rd hp
      | some t => obtain ⟨L, a, q⟩ := t; exact sRX D rd hp
    refine key.mono ?_
    rintro e' t ⟨rfl, rfl⟩
    exact .inr ⟨(by intro x; cases x), rfl, rfl⟩
  · refine (step D h hn h30 (by omega) (fun i hi => hm i (by omega)) rd).mono ?_
    rintro e' t ⟨rfl, rfl⟩
    exact .inl ⟨rfl, n - (j + 1), by omega, j + 1, by omega, rfl, rfl⟩
theorem loopY {x : Nest} (D : DT) {P n c k : Nat} (h : x.Ok P) (hn : n ≤ x.N P) (h30 : n ≤ 30) (hk : k < n) (hm : ∀ i, i < k → x.m P i ≤ 300) (hbig : 300 < x.m P k) (rd : Option Nat) :
    CodeOk Try.prog rd (.loop lb) (lE x P n c) .ret (stY x P n c k) := by
  refine CodeOk.of_step (Step.loop (fun g t => ∃ j, j ≤ k ∧ g = k - j ∧ t = stS x P n c j) ?_ k _ ⟨0, by omega, by omega, rfl⟩)
  rintro g t ⟨j, g2, rfl, rfl⟩
  by_cases hj : j = k
  · subst hj
    have hp : pY x P n j := by
      unfold pY
      rw [len0_eq, ix_eq]
      simp only [nI, decide_eq_true_eq]
      exact ⟨⟨⟨⟨⟨trivial, by omega⟩, by omega⟩, by omega⟩, by omega⟩, trivial⟩
    have key : Step Try.prog rd (lE x P n c) lb (stS x P n c j) (fun e t => e = .ret ∧ t = stY x P n c j) := by
      unfold stS stY
      cases stA x P j with
      | none =>
        cases j with
        | zero => exact sEY D rd hp
        | succ j => exact sNY D rd hp
      | some t => obtain ⟨L, a, q⟩ := t; exact sRY D rd hp
    refine key.mono ?_
    rintro e' t ⟨rfl, rfl⟩
    exact .inr ⟨(by intro x; cases x), rfl, rfl⟩
  · refine (step D h hn h30 (by omega) (fun i hi => hm i (by omega)) rd).mono ?_
    rintro e' t ⟨rfl, rfl⟩
    exact .inl ⟨rfl, k - (j + 1), by omega, j + 1, by omega, rfl, rfl⟩
/-! the law's runs -/
def askL (e : Exit) (X : St) (f : FuncId) (c : Code) (s : St) : Option Ask2 := if f == 4 then some ⟨⟨[], [], [], []⟩, e, fun _ => X⟩ else none
def KX (x : Nest) (D : DT) (e : Exit) (X : St) : Given := Given.asking2 (KL x D) Try.prog (askL e X)
theorem KX_ok (x : Nest) (D : DT) (e : Exit) (X : St) : GivenOk Try.prog (KX x D e X) := (KL_ok x D).asking2 _
def e1 (p : Prop) (u v : Int) : Prop := p ∧ decide (u = v) = true
def e4 (p : Prop) (u v : Int) : Prop := e1 (e1 (e1 (e1 p (by8 u 3) (by8 v 3)) (by8 u 2) (by8 v 2)) (by8 u 1) (by8 v 1)) (by8 u 0) (by8 v 0)
def e20 (p : Prop) (X Y : sw.N5) : Prop := e4 (e4 (e4 (e4 (e4 p X.a Y.a) X.b Y.b) X.c Y.c) X.d Y.d) X.e Y.e
theorem e20_of {p : Prop} (X : sw.N5) (hp : p) : e20 p X X := by
  unfold e20 e4 e1
  simp only [decide_eq_true_eq, and_true]; exact hp
def o20 : List (Option Bool) := List.replicate 20 (some true)
def q13 (x : Nest) (D : DT) (P n : Nat) : Prop := D = shaN ∧ x.F = x.F ∧ x.Ok P ∧ n ≤ x.N P ∧ n < most ∧ (x.cat P n).length ≤ most
def call4 (x : Nest) (K : Given) (P n c : Nat) (o : List (Option Bool)) : Option (Value × Prop) := ((mk Try.prog K 300).call 4 [S P n c] (smSt 1 [some (.fam x.F)] o)).map (fun r => (r.1, r.2.obl))
theorem runB (x : Nest) (D : DT) (P n c : Nat) : call4 x (KL x D) P n c [some true] = some (.bool true, (True ∧ decide (nI n > 30) = true) ∧ True) := by kernel_rfl
theorem runZ (x : Nest) (D : DT) (P c : Nat) : call4 x (KL x D) P 0 c ([none, none] ++ o20) = some (.bool true, e20 ((True ∧ q13 x D P 0) ∧ D = shaN) (D (x.cat P 0)) (D []) ∧ True) := by kernel_rfl
theorem runN (x : Nest) (D : DT) (P n c k : Nat) : call4 x (KX x D (.exit 0) (lN x P n c k)) P n c (some false :: o20) = some (.bool true, e20 ((((True ∧ decide (nI n > 30) = false) ∧ (∀ rd, CodeOk Try.prog rd (.loop lb) (lE x P n c) (.exit 0) (lN x P n c k))) ∧ q13 x D P n) ∧ D = shaN) (D (x.cat P n)) (D []) ∧ True) := by kernel_rfl
def q12 (D : DT) (L : List Int) (a : Nat) : Prop := D = shaN ∧ a = ((L.drop 0).take a).length ∧ 0 < a ∧ a ≤ 1000000000
theorem runA (x : Nest) (D : DT) (P n c k : Nat) (L : List Int) (a q : Nat) : call4 x (KX x D (.exit 0) (lR x P n c k L a q)) P n c (some false :: o20) = some (.bool true, e20 ((((True ∧ decide (nI n > 30) = false) ∧ (∀ rd, CodeOk Try.prog rd (.loop lb) (lE x P n c) (.exit 0) (lR x P n c k L a q))) ∧ q13 x D P n) ∧ q12 D L a) (D (x.cat P n)) (D ((L.drop 0).take a)) ∧ True) := by kernel_rfl
def pW (x : Nest) (P n c : Nat) (X : St) : Prop := (True ∧ decide (nI n > 30) = false) ∧ (∀ rd, CodeOk Try.prog rd (.loop lb) (lE x P n c) .ret X)
theorem runYE (x : Nest) (D : DT) (P n c : Nat) : call4 x (KX x D .ret (eY x P n c)) P n c [some false] = some (.bool true, pW x P n c (eY x P n c)) := by kernel_rfl
theorem runYN (x : Nest) (D : DT) (P n c k : Nat) : call4 x (KX x D .ret (nY x P n c k)) P n c [some false] = some (.bool true, pW x P n c (nY x P n c k)) := by kernel_rfl
theorem runYR (x : Nest) (D : DT) (P n c k : Nat) (L : List Int) (a q : Nat) : call4 x (KX x D .ret (rY x P n c k L a q)) P n c [some false] = some (.bool true, pW x P n c (rY x P n c k L a q)) := by kernel_rfl
theorem first {p : Nat → Prop} [DecidablePred p] : ∀ n, (∀ i, i < n → p i) ∨ ∃ k, k < n ∧ ¬ p k ∧ ∀ i, i < k → p i
  | 0 => .inl fun i hi => by omega
  | n + 1 => by
    rcases first (p := p) n with h | ⟨k, h1, h2, h3⟩
    · by_cases hp : p n
      · exact .inl fun i hi => by
          rcases Nat.lt_or_ge i n with h4 | h4
          · exact h i h4
          · have : i = n := by omega
            rw [this]; exact hp
      · exact .inr ⟨n, by omega, hp, h⟩
    · exact .inr ⟨k, by omega, h2, h3⟩
/-- whatever the parts: the law's call gives true -/
theorem parts {x : Nest} {W : World} {P n c : Nat} {v : Value} (hat : x.At W) (hW : 0 < W.heap.size) (h : x.Ok P) (hn : n = x.N P) (hv : AbsOk P 0 n c v) :
    Calls Try.prog 4 #[v] W fun e w' => e = .returned (.bool true) ∧ Below W.heap.size W w' := by
  have fin : ∀ (K : Given) (hK : GivenOk Try.prog K) (orc : List (Option Bool)) (p : Prop), call4 x K P n c orc = some (.bool true, p) → p →
      Calls Try.prog 4 #[v] W fun e w' => e = .returned (.bool true) ∧ Below W.heap.size W w' := fun K hK orc p hr hp => by
    obtain ⟨ρ, g1, g2⟩ := Nest.start hat hW orc
    exact ranG sw.pg hK (ρ := ρ) hr hp rfl g1 (VL.cons (g2 P n c v hv) VL.nil)
  by_cases hb : 30 < n
  · exact fin _ (KL_ok x shaN) _ _ (runB x shaN _ n c) ⟨⟨trivial, by simp only [nI, decide_eq_true_eq]; omega⟩, trivial⟩
  have hq : ∀ (hl : (x.cat P n).length ≤ most), q13 x shaN P n := fun hl => ⟨rfl, rfl, h, by omega, by unfold most; omega, hl⟩
  by_cases h0 : n = 0
  · subst h0
    exact fin _ (KL_ok x shaN) _ _ (runZ x shaN _ c) ⟨e20_of _ ⟨⟨trivial, hq (Nat.zero_le _)⟩, rfl⟩, trivial⟩
  have h30 : decide (nI n > 30) = false := by simp only [nI, decide_eq_false_iff_not]; omega
  rcases first (p := fun i => x.m P i ≤ 300) n with hm | ⟨k, k1, k2, k3⟩
  · have hl : (x.cat P n).length ≤ most := by
      have := Nest.cat_len (B := 300) h n (by omega) hm
      unfold most; omega
    have hloop := fun rd => loopX (c := c) shaN h (by omega) (by omega) (by omega) hm rd
    have hok := stA_ok h n (by omega)
    unfold stS at hloop
    cases hs : stA x P n with
    | none =>
      rw [hs] at hloop hok
      have hok : x.cat P n = [] := hok
      obtain ⟨j, rfl⟩ : ∃ j, n = j + 1 := ⟨n - 1, by omega⟩
      refine fin _ (KX_ok _ _ _ _) _ _ (runN x shaN _ (j + 1) c (j + 1)) ⟨?_, trivial⟩
      rw [hok]
      exact e20_of _ ⟨⟨⟨⟨trivial, h30⟩, hloop⟩, hq hl⟩, rfl⟩
    | some t =>
      obtain ⟨L, a, q⟩ := t
      rw [hs] at hloop hok
      obtain ⟨i1, i2, i3, i4, i5⟩ := hok
      refine fin _ (KX_ok _ _ _ _) _ _ (runA x shaN _ n c n L a q) ⟨?_, trivial⟩
      rw [List.drop_zero, i2]
      unfold most at hl
      have hcl := Nest.cat_len (B := 300) h n (by omega) hm
      exact e20_of _ ⟨⟨⟨⟨trivial, h30⟩, hloop⟩, hq (by unfold most; omega)⟩, rfl, by rw [List.drop_zero, List.length_take]; omega, i5, by omega⟩
  · have hloop := fun rd => loopY (c := c) shaN h (by omega) (by omega) k1 k3 (by omega) rd
    unfold stY at hloop
    cases hs : stA x P k with
    | none =>
      rw [hs] at hloop
      cases k with
      | zero => exact fin _ (KX_ok _ _ _ _) _ _ (runYE x shaN _ n c) ⟨⟨trivial, h30⟩, hloop⟩
      | succ k => exact fin _ (KX_ok _ _ _ _) _ _ (runYN x shaN _ n c (k + 1)) ⟨⟨trivial, h30⟩, hloop⟩
    | some t =>
      obtain ⟨L, a, q⟩ := t
      rw [hs] at hloop
      exact fin _ (KX_ok _ _ _ _) _ _ (runYR x shaN _ n c k L a q) ⟨⟨trivial, h30⟩, hloop⟩
/-! no parts -/
def FZ0 (D : DT) (E0 : ET) (f : FuncId) (args : List Value) (s : St) : Option Inst := match FO AB E0 f args s with
  | some i => some i
  | none => tc.FD D f args s
theorem FZ0_ok (D : DT) (E0 : ET) (f : FuncId) (args : List Value) (s : St) (i : Inst) (h : FZ0 D E0 f args s = some i) : Fits s i args ∧ (i.ask → CallOk Try.prog f i.args i.s0 i.val i.s1) := by
  unfold FZ0 at h
  split at h
  · rename_i j h1
    cases h; exact FO_ok AB E0 f args s _ h1
  · exact tc.FD_ok D f args s _ h
def KZ0 (D : DT) (E0 : ET) : Given := { Given.frames Given.nothing (FZ0 D E0) with fits := true }
theorem KZ0_ok (D : DT) (E0 : ET) : GivenOk Try.prog (KZ0 D E0) := frames_fits ((GivenOk.nothing _).frames (FZ0_ok D E0)) true
def pZ0 (D : DT) (E0 : ET) : Prop := e20 ((True ∧ p23 E0 (hOf l0) 0) ∧ D = shaN) (E0 (hOf (cH (hOf l0) 0)) (intAt (cH (hOf l0) 0) 70).toNat) (D []) ∧ True
def oZ0 : List (Option Bool) := [none, none, none] ++ o20
theorem runZn (D : DT) (E0 : ET) : ((mk Try.prog (KZ0 D E0) 300).call 4 [.slice none 0 0] (St.start 0 .leaf oZ0)).map (fun r => (r.1, r.2.obl)) = some (.bool true, pZ0 D E0) := by kernel_rfl
theorem runZz (D : DT) (E0 : ET) (c : Nat) : ((mk Try.prog (KZ0 D E0) 300).call 4 [.slice (some ⟨0, 0, none⟩) 0 c] (St.start 1 .leaf oZ0)).map (fun r => (r.1, r.2.obl)) = some (.bool true, pZ0 D E0) := by kernel_rfl
theorem pZ0_ok : pZ0 shaN DS := by
  have hp : p23 DS (hOf l0) 0 := by
    unfold p23
    rw [at70, at64, SemH.zero.rn]
    exact ⟨rfl, by decide, by decide, by decide⟩
  have ev : DS (hOf (cH (hOf l0) 0)) (intAt (cH (hOf l0) 0) 70).toNat = shaN [] := by
    rw [at70]
    exact (SemH.zero.cells 0).DS (fun x hx => by cases hx)
  unfold pZ0
  rw [ev]
  exact ⟨e20_of _ ⟨⟨trivial, hp⟩, rfl⟩, trivial⟩
theorem sha1Parts (W : World) (a0 : Option Addr) (n0 c0 : Nat) (s0 : (a0 = none ∧ n0 = 0 ∧ c0 = 0) ∨ ∃ b o, a0 = some ⟨b, o, none⟩ ∧ n0 ≤ c0 ∧ (c0 : Int) ≤ 9223372036854775807)
    (z0 : n0 = 0 ∨ ∃ b o, a0 = some ⟨b, o, none⟩ ∧ b < W.heap.size ∧ ∀ i, i < n0 → ∃ x, W.cell? ⟨b, o + i, none⟩ = some x ∧ InRow W x) :
    Calls Try.prog 4 #[.slice a0 n0 c0] W fun e w' => e = .returned (.bool true) ∧ Below W.heap.size W w' := by
  rcases s0 with ⟨rfl, rfl, rfl⟩ | ⟨b, o, rfl, hc, _⟩
  · exact ran sw.pg (KZ0_ok _ _) (runZn shaN DS) pZ0_ok rfl rfl W
  · by_cases h0 : n0 = 0
    · subst h0
      exact ranG sw.pg (KZ0_ok _ _) (ρ := fun _ => ⟨b, o, 0⟩) (runZz shaN DS c0) pZ0_ok rfl (named_hs 1 _ _ W) (VL.cons (VR.unread (a := ⟨b, o, none⟩) (by decide) rfl rfl hc) VL.nil)
    · rcases z0 with h | ⟨b', o', e, hb, h⟩
      · exact absurd h h0
      · cases e
        obtain ⟨x, h1, h2, h3⟩ := Nest.of h
        exact parts h1 (by omega) h2 h3.symm (AbsOk.of hc)
end
end na
end Go.Proofs.Yteknepfcbpoooaa
