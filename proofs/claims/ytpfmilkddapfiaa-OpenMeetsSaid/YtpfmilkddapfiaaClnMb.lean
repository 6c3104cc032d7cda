/- Read off the code by the clean reading. -/
import Derived.Test.YtpfmilkddapfiaaClnMa
import Derived.Test.YtpfmilkddapfiaaClnQd
set_option linter.unusedVariables false
set_option linter.unusedSimpArgs false
set_option linter.deprecated false
set_option maxRecDepth 100000
namespace Go.Proofs.Ytpfmilkddapfiaa
open Go.ChangeShapes Go.WideShapes Go.ChangeAt Go.RowKit Go.Cln
namespace ob
set_option linter.unusedVariables false
noncomputable section
def b11 : Code := ((Try.prog.funcs[11]?).bind (·.body)).getD .skip
def capR (K : Nat → Int) (Q M C : Nat → Nat) (i : Nat) : List Value := [.int .u8 (K i), PB_ (Q i) (M i) (C i)]
noncomputable def go11 (K : Given) (c : Code) (s : St) (o : List (Option Bool)) : Option (Exit × St) := (mk Try.prog K 200).code 11 none c { s with obl := True, orc := o }
def MX.wD (x : MX) (D : Nat → List Int) : MX := { x with D := D }
def MX.putC (x : MX) (P n : Nat) (K : Nat → Int) (Q M C : Nat → Nat) : MX := { x with CN := updF x.CN P n, CK := updF x.CK P K, CQ := updF x.CQ P Q, CM := updF x.CM P M, CC := updF x.CC P C }
theorem putB_F (x : MX) (P : Nat) (L : List Int) : (x.wD (updF x.D P L)).F = famPutS x.F (fun g => Nat.beq g 1000) P (.ints .u8 L) := by
  funext g B
  unfold famPutS MX.F MX.wD updF
  dsimp only
  cases Nat.beq g 1000 <;> cases Nat.beq B P <;> rfl
theorem putC_F (x : MX) (P n : Nat) (K : Nat → Int) (Q M C : Nat → Nat) : (x.putC P n K Q M C).F = famPutS x.F (fun g => !Nat.beq g 1000) P (.rows n 2 (capR K Q M C)) := by
  funext g B
  unfold famPutS MX.F MX.putC MX.cap updF
  dsimp only
  cases Nat.beq g 1000 <;> cases Nat.beq B P <;> rfl
def e11 : Code := dropC 3 b11
def e11b : Code := dropC 1 e11
theorem capR_in {K : Nat → Int} {Q M C : Nat → Nat} {i : Nat} {v : Value} (hv : v ∈ capR K Q M C i) : (∀ σ, ren σ v = v) ∧ ∀ s : St, okB s 0 = true → okV s v = true := by
  simp only [capR, List.mem_cons, List.not_mem_nil, or_false] at hv
  rcases hv with rfl | rfl
  · exact ⟨fun _ => rfl, fun _ _ => rfl⟩
  · exact ⟨fun _ => rfl, fun _ h => h⟩
end
end ob
end Go.Proofs.Ytpfmilkddapfiaa
namespace Go.Proofs.Ytpfmilkddapfiaa
open Go.ChangeShapes Go.WideShapes Go.ChangeAt Go.RowKit Go.Cln
namespace ob
set_option linter.unusedVariables false
noncomputable section
theorem ints_fam {L : List Int} (k : Nat) (v : Value) (h : (Cells.ints .u8 L).get k = some v) : (Cells.ints .u8 L).get k = some v ∧ famV v = true := by
  refine ⟨h, ?_⟩
  simp only [Cells.get, Option.map_eq_some_iff] at h
  obtain ⟨y, _, rfl⟩ := h
  rfl
end
end ob
end Go.Proofs.Ytpfmilkddapfiaa
namespace Go.Proofs.Ytpfmilkddapfiaa
open Go.ChangeShapes Go.WideShapes Go.ChangeAt Go.RowKit Go.Cln
namespace ob
set_option linter.unusedVariables false
noncomputable section
noncomputable def tm6q (v : VF) (a : OV) : List Value := (a.v :: .pointer (some ⟨1, 0, none⟩) :: .pointer (some ⟨2, 0, none⟩) :: vs v 3 26 [])
theorem StepW.redrawE {P : Program} {rd : Option Nat} {s0 : St} {ρ0 : Nat → PB} {w0 : World} {c : Code} {s : St} {Q : Exit → St → Prop} (hp : ∀ (w : World) (a : Act), Hs s0 ρ0 w0 → PicG s0 ρ0 w0 s w a → ∃ s2, PicG s0 ρ0 w0 s2 w a ∧ StepW P rd s0 ρ0 w0 c s2 Q) : StepW P rd s0 ρ0 w0 c s Q := fun n w a R h1 h2 h3 h4 => let ⟨_, p, h⟩ := hp w a h2 h3; h n w a R h1 h2 p h4
structure LI (x : MX) (a : OV) (w0 : World) (D : Nat → List Int) (Q : Nat → Nat) : Prop where
  keep : Keeps x.F (x.wD D).F
  fresh : Fresh w0 x.F (x.wD D).F
  len : ∀ j, j < a.n → x.CM a.P j ≤ (D (Q j)).length
  eq : ∀ j, j < a.n → (D (Q j)).take (x.CM a.P j) = (x.D (x.CQ a.P j)).take (x.CM a.P j)
theorem keepD {x : MX} {D D2 : Nat → List Int} (h : Keeps (x.wD D).F (x.wD D2).F) {B : Nat} (hB : 0 < (D B).length) : D2 B = D B := by
  have e : Cells.ints .u8 (D2 B) = Cells.ints .u8 (D B) := h.ints (g := 1000) (B := B) (k := .u8) (L := D B) rfl hB
  exact (Cells.ints.inj e).2
theorem LI.step {x : MX} {a : OV} {w0 : World} {i : Nat} {D : Nat → List Int} {Q : Nat → Nat} {P : Nat} {L : List Int} (h : LI x a w0 D Q) (hi : i < a.n) (hL : L = (D (Q i)).take (x.CM a.P i)) (hP : w0.heap.size ≤ blkOf P)
    (hk : Keeps (x.wD D).F (famPutS (x.wD D).F (fun g => Nat.beq g 1000) P (.ints .u8 L))) : LI x a w0 (updF D P L) (updF Q i P) := by
  have eF : famPutS (x.wD D).F (fun g => Nat.beq g 1000) P (.ints .u8 L) = (x.wD (updF D P L)).F := (putB_F (x.wD D) P L).symm
  rw [eF] at hk
  have hl := h.len i hi
  have hLl : L.length = x.CM a.P i := by rw [hL, List.length_take]; omega
  refine ⟨h.keep.trans hk, ?_, fun j hj => ?_, fun j hj => ?_⟩
  · rw [← eF]; exact h.fresh.put hP
  · by_cases e : j = i
    · subst e; rw [updF_at, updF_at, hLl]; exact Nat.le_refl _
    · rw [updF_ne Q P e]
      have := h.len j hj
      rcases Nat.eq_zero_or_pos (x.CM a.P j) with h0 | h0
      · omega
      · rw [keepD hk (by omega)]; exact this
  · by_cases e : j = i
    · subst e; rw [updF_at, updF_at, List.take_of_length_le (by omega), hL]; exact h.eq j hj
    · rw [updF_ne Q P e]
      have := h.len j hj
      rcases Nat.eq_zero_or_pos (x.CM a.P j) with h0 | h0
      · rw [h0]; simp
      · rw [keepD hk (by omega)]; exact h.eq j hj
end
end ob
end Go.Proofs.Ytpfmilkddapfiaa
namespace Go.Proofs.Ytpfmilkddapfiaa
open Go.ChangeShapes Go.WideShapes Go.ChangeAt Go.RowKit Go.Cln
namespace ob
set_option linter.unusedVariables false
noncomputable section
theorem mk_fn {P : Program} {F : Nat → Nat → Cells} {f : FuncId} {args : List Value} {body : Code} {l : List ResultVar} {NT : Nat} {R : (Nat → Nat → Cells) → Value → Prop} {s0 : St} (hs0 : s0 = { smSt 1 [some (.fam F)] [] with tmps := args ++ List.replicate (NT - args.length) undef, defers := [] })
    (hfn : (P.funcs[f]?).map (fun f => (f.body, f.results.toList, f.ntmps)) = some (some body, l, NT))
    (h : ∀ ρ0 w0, StepW P none s0 ρ0 w0 body s0 fun e s' => leaves? e = true ∧ s'.defers = [] ∧ ∃ F' q, s'.heap.get 0 = some (.fam F') ∧ Fresh w0 F F' ∧ results1 P s' l = some q ∧ q.2.obl ∧ farW (oneOf q.1) = true ∧ R F' (oneOf q.1)) : MkOk P F f args R := by
  cases hf : P.funcs[f]? with
  | none => rw [hf] at hfn; cases hfn
  | some fn =>
    rw [hf] at hfn
    simp only [Option.map_some, Option.some.injEq, Prod.mk.injEq] at hfn
    obtain ⟨h1, h2, h3⟩ := hfn
    subst h3
    subst hs0
    exact MkOk.ofW hf h1 h2 h
noncomputable def h6 (x : MX) (a : OV) (K : Nat → Int) (Q M C : Nat → Nat) : Nat → Option Ob := fun j => match j with
  | 0 => some (.fam x.F)
  | 1 => some (.cells (.lit [.int .u32 a.asn, .int .u16 a.hold, .int .u32 a.id, .slice (some ⟨3, 0, some 2⟩) a.n a.n]) 26)
  | 2 => some (.cells (.lit [.int .u32 0, .int .u16 0, .int .u32 0, .slice none 0 0]) 26)
  | 3 => some (.cells (.rows a.n 2 (capR K Q M C)) 53)
  | _ => none
noncomputable def h7 (x : MX) (a : OV) (P c : Nat) : Nat → Option Ob := fun j => match j with
  | 0 => some (.fam x.F)
  | 1 => some (.cells (.lit [.int .u32 a.asn, .int .u16 a.hold, .int .u32 a.id, PC P a.n c]) 26)
  | 2 => some (.cells (.lit [.int .u32 0, .int .u16 0, .int .u32 0, .slice none 0 0]) 26)
  | _ => none
noncomputable def s7 (x : MX) (a : OV) (P c : Nat) (v : VF) : St := ⟨tm6q v a, [], Tr.rebuild (h7 x a P c) 4, 4, 1, [], fun _ => false, True, []⟩
theorem k7 (x : MX) (a : OV) (P c : Nat) (v : VF) : (go11 KN e11b (s7 x a P c v) []).bind (fun r => (results1 Try.prog r.2 [.cell 2 26]).map fun q => (r.1, q.2.obl, r.2.defers, oneOf q.1, r.2.heap.get 0)) = some (.ret, True, [], OV.v ⟨a.asn, a.hold, a.id, P, a.n, c⟩, some (.fam x.F)) := by kernel_rfl
theorem capR_fam {n : Nat} {K : Nat → Int} {Q M C : Nat → Nat} (k : Nat) (v : Value) (h : (Cells.rows n 2 (capR K Q M C)).get k = some v) : (Cells.rows n 2 (capR K Q M C)).get k = some v ∧ famV v = true := by
  refine ⟨h, ?_⟩
  obtain ⟨_, h2, _⟩ := rows_inv (by decide) h
  have hv := List.mem_of_getElem? h2
  simp only [capR, List.mem_cons, List.not_mem_nil, or_false] at hv
  rcases hv with rfl | rfl <;> rfl
structure SameCaps (x : MX) (P : Nat) (y : MX) (P' n : Nat) : Prop where
  cn : n ≤ y.CN P'
  k : ∀ j, j < n → y.CK P' j = x.CK P j
  m : ∀ j, j < n → y.CM P' j = x.CM P j
  len : ∀ j, j < n → y.CM P' j ≤ (y.D (y.CQ P' j)).length
  eq : ∀ j, j < n → (y.D (y.CQ P' j)).take (y.CM P' j) = (x.D (x.CQ P j)).take (x.CM P j)
end
end ob
end Go.Proofs.Ytpfmilkddapfiaa
