/- Read off the code by the clean reading. -/
import Derived.Test.YthgiflgofdmamabClnR9
import Derived.Test.YthgiflgofdmamabRows
import Derived.WalkKit
import Derived.ProofKit
import Derived.Below
import Derived.IntWalk
set_option linter.unusedVariables false
set_option linter.unusedSimpArgs false
set_option linter.deprecated false
set_option maxRecDepth 100000
namespace Go.Proofs.Ythgiflgofdmamab
open Go.ChangeShapes Go.WideShapes Go.ChangeAt Go.RowKit Go.Cln
namespace rn
set_option linter.unusedVariables false
set_option linter.unusedSimpArgs false
noncomputable section
theorem ObV.rows {s2 : St} {n w : Nat} {g : Nat → List Value} {t1 t : TypeId} (h : ∀ i, (g i).all flat0 = true) : ObV s2 id (.cells (.rows n w g) t1) (.cells (.rows n w g) t) :=
  .ints fun i v hv => ⟨hv, by
    simp only [Cells.get] at hv
    split at hv
    · exact List.all_eq_true.1 (h _) v (List.mem_of_getElem? hv)
    · cases hv⟩
noncomputable def ad (i : Nat) : Nat := 0 + ((i : Int)).toNat * 3
noncomputable def aq (i : Nat) : Nat := ad i / 3
noncomputable def nx (F : StepT) (S : Scr) (w : Clk) (i : Nat) : Clk := F ⟨w.fi, w.le, w.mo, w.tr, w.an, w.sm, w.sp, w.wa, w.td, w.ru, w.si⟩ (S.k (aq i)) (S.n (aq i)) (S.b (aq i))
noncomputable def c0 (F : StepT) (S : Scr) (B : Bd) (n : Nat) (w : Clk) (i : Nat) : Prop := decide (((i : Int)) < (n : Int)) = true
noncomputable def c1 (F : StepT) (S : Scr) (B : Bd) (n : Nat) (w : Clk) (i : Nat) : Prop := 0 ≤ (i : Int) ∧ (i : Int) < (n : Int)
noncomputable def c2 (F : StepT) (S : Scr) (B : Bd) (n : Nat) (w : Clk) (i : Nat) : Prop :=  ad i % 3 = 0 ∧ ad i / 3 < n
noncomputable def c3 (F : StepT) (S : Scr) (B : Bd) (n : Nat) (w : Clk) (i : Nat) : Prop := (⟨w.fi, w.le, w.mo, w.tr, w.an, w.sm, w.sp, w.wa, w.td, w.ru, w.si⟩ : Clk) = (⟨w.fi, w.le, w.mo, w.tr, w.an, w.sm, w.sp, w.wa, w.td, w.ru, w.si⟩ : Clk) ∧ Gd (⟨w.fi, w.le, w.mo, w.tr, w.an, w.sm, w.sp, w.wa, w.td, w.ru, w.si⟩ : Clk) ∧ wfT (S.n (aq i))
noncomputable def c4 (F : StepT) (S : Scr) (B : Bd) (n : Nat) (w : Clk) (i : Nat) : Prop := 1 ≤ (nx F S w i).fi ∧ True
noncomputable def c5 (F : StepT) (S : Scr) (B : Bd) (n : Nat) (w : Clk) (i : Nat) : Prop := decide ((nx F S w i).wa = (nx F S w i).wa) = true
noncomputable def c6 (F : StepT) (S : Scr) (B : Bd) (n : Nat) (w : Clk) (i : Nat) : Prop := decide ((nx F S w i).td = (nx F S w i).td) = true
noncomputable def c7 (F : StepT) (S : Scr) (B : Bd) (n : Nat) (w : Clk) (i : Nat) : Prop := (!((nx F S w i).ru == (nx F S w i).ru)) = false
noncomputable def c8 (F : StepT) (S : Scr) (B : Bd) (n : Nat) (w : Clk) (i : Nat) : Prop := decide ((nx F S w i).wa < B.le) = false
noncomputable def c9 (F : StepT) (S : Scr) (B : Bd) (n : Nat) (w : Clk) (i : Nat) : Prop := decide (B.mo < (nx F S w i).wa) = false
noncomputable def c10 (F : StepT) (S : Scr) (B : Bd) (n : Nat) (w : Clk) (i : Nat) : Prop := decide (B.tr < (nx F S w i).td) = false
noncomputable def c11 (F : StepT) (S : Scr) (B : Bd) (n : Nat) (w : Clk) (i : Nat) : Prop := IntKind.i64.wrap (((i : Int) + 1)) = (i : Int) + 1
noncomputable def pB (F : StepT) (S : Scr) (B : Bd) (n : Nat) (w : Clk) (i : Nat) : Prop :=
  ((((((((((((((((((((((((((((((((((((((((((True ∧ c0 F S B n w i) ∧ c1 F S B n w i) ∧ c2 F S B n w i) ∧ c3 F S B n w i) ∧ c4 F S B n w i) ∧ c5 F S B n w i) ∧ c5 F S B n w i) ∧ c5 F S B n w i) ∧ c5 F S B n w i) ∧ c4 F S B n w i) ∧ c5 F S B n w i) ∧ c5 F S B n w i) ∧ c6 F S B n w i) ∧ c6 F S B n w i) ∧ c6 F S B n w i) ∧ c6 F S B n w i) ∧ c4 F S B n w i) ∧ c6 F S B n w i) ∧ c6 F S B n w i) ∧ c7 F S B n w i) ∧ c7 F S B n w i) ∧ c7 F S B n w i) ∧ c7 F S B n w i) ∧ c4 F S B n w i) ∧ c7 F S B n w i) ∧ c7 F S B n w i) ∧ c8 F S B n w i) ∧ c8 F S B n w i) ∧ c8 F S B n w i) ∧ c8 F S B n w i) ∧ c4 F S B n w i) ∧ c8 F S B n w i) ∧ c8 F S B n w i) ∧ c9 F S B n w i) ∧ c9 F S B n w i) ∧ c9 F S B n w i) ∧ c9 F S B n w i) ∧ c4 F S B n w i) ∧ c9 F S B n w i) ∧ c9 F S B n w i) ∧ c10 F S B n w i) ∧ c11 F S B n w i)
noncomputable def body : Code := loopB Try.prog 3 0
noncomputable def oB : List (Option Bool) := [some true, some true, some false, some true, none, none, none, none, some true, some true, some true, some true, none, some true, some true, some true, some true, some true, some true, none, none, none, none, none, some true, some true, none, none, some false, some false, some false, some false, none, some false, some false, some false, some false, some false, some false, none, some false, some false, some false, some false, some false, some false, none, some false, some false, some false, some true]
noncomputable def runE (F : StepT) (S : Scr) (B : Bd) (n c : Nat) (w : Clk) (i : Nat) (rd : Option Nat) : Option (Exit × St) := (mk Try.prog (KL F) 200).code 3 rd body { mkL S B n w (tE B n c i) with obl := True, orc := oB }
noncomputable def runR (F : StepT) (S : Scr) (B : Bd) (n c : Nat) (w : Clk) (i : Nat) (rd : Option Nat) : Option (Exit × St) := (mk Try.prog (KL F) 200).code 3 rd body { mkL S B n w (tR B n c i) with obl := True, orc := oB }
noncomputable def runX (F : StepT) (S : Scr) (B : Bd) (n c : Nat) (w : Clk) (i : Nat) (rd : Option Nat) : Option (Exit × St) := (mk Try.prog (KL F) 200).code 3 rd body { mkL S B n w (tR B n c i) with obl := True, orc := [some false] }
noncomputable def pX (n i : Nat) : Prop := (True ∧ (decide (((i : Int)) < (n : Int)) = false))
section
variable (F : StepT) (S : Scr) (B : Bd) (n c : Nat) (w : Clk) (i : Nat) (rd : Option Nat)
theorem eE : (runE F S B n c w i rd).map (fun r => (r.1, r.2.obl)) = some (.normal, pB F S B n w i) := by kernel_rfl
theorem eR : (runR F S B n c w i rd).map (fun r => (r.1, r.2.obl)) = some (.normal, pB F S B n w i) := by kernel_rfl
theorem eX : (runX F S B n c w i rd).map (fun r => (r.1, r.2.obl)) = some (.exit 0, pX n i) := by kernel_rfl
noncomputable def sE : St := ((runE F S B n c w i rd).map (·.2)).getD (mkL S B n w (tE B n c i))
noncomputable def sR : St := ((runR F S B n c w i rd).map (·.2)).getD (mkL S B n w (tR B n c i))
noncomputable def sX : St := ((runX F S B n c w i rd).map (·.2)).getD (mkL S B n w (tR B n c i))
theorem gE : (List.range 10).map (sE F S B n c w i rd).heap.get = (List.range 10).map (hp S B n (nx F S w i)) := by kernel_rfl
theorem mE : maskD (sE F S B n c w i rd).tmps (mkL S B n (nx F S w i) (tR B n c (i + 1))).tmps = (mkL S B n (nx F S w i) (tR B n c (i + 1))).tmps.map (ren id) := by kernel_rfl
theorem rE : ((sE F S B n c w i rd).roB, (sE F S B n c w i rd).ro, (sE F S B n c w i rd).defers) = (1, [], []) := by kernel_rfl
theorem dE : (sE F S B n c w i rd).hid = fun _ => false := by kernel_rfl
theorem gR : (List.range 10).map (sR F S B n c w i rd).heap.get = (List.range 10).map (hp S B n (nx F S w i)) := by kernel_rfl
theorem mR : maskD (sR F S B n c w i rd).tmps (mkL S B n (nx F S w i) (tR B n c (i + 1))).tmps = (mkL S B n (nx F S w i) (tR B n c (i + 1))).tmps.map (ren id) := by kernel_rfl
theorem rR : ((sR F S B n c w i rd).roB, (sR F S B n c w i rd).ro, (sR F S B n c w i rd).defers) = (1, [], []) := by kernel_rfl
theorem dR : (sR F S B n c w i rd).hid = fun _ => false := by kernel_rfl
theorem gX : (List.range 10).map (sX F S B n c w i rd).heap.get = (List.range 10).map (hp S B n w) := by kernel_rfl
theorem mX : maskD (sX F S B n c w i rd).tmps (mkL S B n w (tR B n c i)).tmps = (mkL S B n w (tR B n c i)).tmps.map (ren id) := by kernel_rfl
theorem rX : ((sX F S B n c w i rd).roB, (sX F S B n c w i rd).ro, (sX F S B n c w i rd).defers) = (1, [], []) := by kernel_rfl
theorem dX : (sX F S B n c w i rd).hid = fun _ => false := by kernel_rfl
end
theorem obB {s2 : St} {S : Scr} {B : Bd} {n : Nat} {w : Clk} : ∀ {j : Nat} {o : Ob}, hp S B n w j = some o → ObV s2 id o o
  | 0, _, h => by cases h; exact ObV.rows fun _ => rfl
  | 1, _, h => by cases h; exact ObV.lit rfl rfl
  | 2, _, h => by cases h; exact ObV.lit rfl rfl
  | 3, _, h => by cases h; exact ObV.lit rfl rfl
  | 4, _, h => by cases h; exact ObV.lit rfl rfl
  | 5, _, h => by cases h; exact ObV.lit rfl rfl
  | 6, _, h => by cases h; exact ObV.lit rfl rfl
  | 7, _, h => by cases h; exact ObV.lit rfl rfl
  | 8, _, h => by cases h; exact ObV.lit rfl rfl
  | 9, _, h => by cases h; exact ObV.lit rfl rfl
  | n + 10, _, h => by cases h
theorem viewL {S : Scr} {B : Bd} {n c i : Nat} {w w0 : Clk} {t0 : List Value} {s1 : St} (hg : (List.range 10).map s1.heap.get = (List.range 10).map (hp S B n w))
    (hm : maskD s1.tmps (mkL S B n w (tR B n c i)).tmps = (mkL S B n w (tR B n c i)).tmps.map (ren id)) (hr : (s1.roB, s1.ro, s1.defers) = (1, [], [])) (hd : s1.hid = fun _ => false) : View (mkL S B n w0 t0) s1 (mkL S B n w (tR B n c i)) id := by
  simp only [Prod.mk.injEq] at hr
  obtain ⟨hr1, hr2, hr3⟩ := hr
  have get : ∀ j, j < 10 → s1.heap.get j = hp S B n w j := fun j hj => by
    have := congrArg (fun l => l[j]?) hg
    simpa [List.getElem?_map, List.getElem?_range hj] using this
  refine View.shed (f := hp S B n w) (n := 10) rfl (by decide) rfl hr1.symm hr2.symm hd.symm hm (by kernel_rfl) (by rw [hr3]; rfl) rfl (fun b hb => ?_) (Nat.le_refl _) (fun b hb h => ?_) (fun b o hb h => ⟨o, by rw [get b hb, h], obB h⟩)
  · simp [okB, mkL, hb]
  · have : b = 0 := by
      rcases Nat.eq_zero_or_pos b with e | e
      · exact e
      · exfalso
        have h : (decide (1 ≤ b) && !List.contains [] b) = false := h
        simp at h
        omega
    subst this; exact (get 0 (by omega)).symm
theorem stepE (S : Scr) (B : Bd) (n c : Nat) (w0 w : Clk) (t0 : List Value) (i : Nat) (rd : Option Nat) (hp : pB (doesF Zr) S B n w i) : Step Try.prog rd (mkL S B n w0 t0) body (mkL S B n w (tE B n c i)) (fun e s => e = .normal ∧ s = mkL S B n (nx (doesF Zr) S w i) (tR B n c (i + 1))) :=
  Step.exec pg KL_ok (eE (doesF Zr) S B n c w i rd) hp (Nat.le_refl _) (viewL (gE ..) (mE ..) (rE ..) (dE ..))
theorem stepR (S : Scr) (B : Bd) (n c : Nat) (w0 w : Clk) (t0 : List Value) (i : Nat) (rd : Option Nat) (hp : pB (doesF Zr) S B n w i) : Step Try.prog rd (mkL S B n w0 t0) body (mkL S B n w (tR B n c i)) (fun e s => e = .normal ∧ s = mkL S B n (nx (doesF Zr) S w i) (tR B n c (i + 1))) :=
  Step.exec pg KL_ok (eR (doesF Zr) S B n c w i rd) hp (Nat.le_refl _) (viewL (gR ..) (mR ..) (rR ..) (dR ..))
theorem stepX (S : Scr) (B : Bd) (n c : Nat) (w0 w : Clk) (t0 : List Value) (i : Nat) (rd : Option Nat) (hp : pX n i) : Step Try.prog rd (mkL S B n w0 t0) body (mkL S B n w (tR B n c i)) (fun e s => e = .exit 0 ∧ s = mkL S B n w (tR B n c i)) :=
  Step.exec pg KL_ok (eX (doesF Zr) S B n c w i rd) hp (Nat.le_refl _) (viewL (gX ..) (mX ..) (rX ..) (dX ..))
end

end rn
end Go.Proofs.Ythgiflgofdmamab
