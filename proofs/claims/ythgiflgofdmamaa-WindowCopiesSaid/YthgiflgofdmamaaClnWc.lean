/- Read off the code by the clean reading. -/
import Derived.Test.YthgiflgofdmamaaClnWb
import Derived.Test.YthgiflgofdmamaaRows
import Derived.WalkKit
import Derived.ProofKit
import Derived.Below
import Derived.IntWalk
set_option linter.unusedVariables false
set_option linter.unusedSimpArgs false
set_option linter.deprecated false
set_option maxRecDepth 100000
namespace Go.Proofs.Ythgiflgofdmamaa
open Go.ChangeShapes Go.WideShapes Go.ChangeAt Go.RowKit Go.Cln
namespace wn
set_option linter.unusedVariables false
set_option linter.unusedSimpArgs false
noncomputable section
theorem ObV.rows {s2 : St} {n w : Nat} {g : Nat → List Value} {t1 t : TypeId} (h : ∀ i, (g i).all flat0 = true) : ObV s2 id (.cells (.rows n w g) t1) (.cells (.rows n w g) t) :=
  .ints fun i v hv => ⟨hv, by
    simp only [Cells.get] at hv
    split at hv
    · exact List.all_eq_true.1 (h _) v (List.mem_of_getElem? hv)
    · cases hv⟩
noncomputable def ad (i : Nat) : Nat := 0 + ((i : Int)).toNat * 4
noncomputable def aq (i : Nat) : Nat := ad i / 4
noncomputable def nx (F : StepT) (S : Scr) (w : W4) (i : Nat) : W4 := F ⟨w.a, w.s, w.m, w.l⟩ (S.k (aq i)) (S.n (aq i)) (S.r (aq i)) (S.b (aq i))
noncomputable def c0 (F : StepT) (rm : RoomT) (zb : ZeroT) (S : Scr) (n : Nat) (w : W4) (i : Nat) : Prop := decide (((i : Int)) < (n : Int)) = true
noncomputable def c1 (F : StepT) (rm : RoomT) (zb : ZeroT) (S : Scr) (n : Nat) (w : W4) (i : Nat) : Prop := 0 ≤ (i : Int) ∧ (i : Int) < (n : Int)
noncomputable def c2 (F : StepT) (rm : RoomT) (zb : ZeroT) (S : Scr) (n : Nat) (w : W4) (i : Nat) : Prop :=  ad i % 4 = 0 ∧ ad i / 4 < n
noncomputable def c3 (F : StepT) (rm : RoomT) (zb : ZeroT) (S : Scr) (n : Nat) (w : W4) (i : Nat) : Prop := (w.a = w.a ∧ w.s = w.s ∧ w.m = w.m ∧ w.l = w.l) ∧ Inv ⟨w.a, w.s, w.m, w.l⟩ 1000000000000 ∧ -9223372036854775808 ≤ S.n (aq i) ∧ S.n (aq i) ≤ 9223372036854775807
noncomputable def c4 (F : StepT) (rm : RoomT) (zb : ZeroT) (S : Scr) (n : Nat) (w : W4) (i : Nat) : Prop := True
noncomputable def c5 (F : StepT) (rm : RoomT) (zb : ZeroT) (S : Scr) (n : Nat) (w : W4) (i : Nat) : Prop := decide ((nx F S w i).a = (nx F S w i).a) = true
noncomputable def c6 (F : StepT) (rm : RoomT) (zb : ZeroT) (S : Scr) (n : Nat) (w : W4) (i : Nat) : Prop := decide ((nx F S w i).s = (nx F S w i).s) = true
noncomputable def c7 (F : StepT) (rm : RoomT) (zb : ZeroT) (S : Scr) (n : Nat) (w : W4) (i : Nat) : Prop := decide ((nx F S w i).m = (nx F S w i).m) = true
noncomputable def c8 (F : StepT) (rm : RoomT) (zb : ZeroT) (S : Scr) (n : Nat) (w : W4) (i : Nat) : Prop := decide ((nx F S w i).l = (nx F S w i).l) = true
noncomputable def c9 (F : StepT) (rm : RoomT) (zb : ZeroT) (S : Scr) (n : Nat) (w : W4) (i : Nat) : Prop := 0 ≤ (nx F S w i).s ∧ (nx F S w i).s ≤ 10000000000000 ∧ -1 ≤ (nx F S w i).l ∧ (nx F S w i).l ≤ 10000000000000
noncomputable def c10 (F : StepT) (rm : RoomT) (zb : ZeroT) (S : Scr) (n : Nat) (w : W4) (i : Nat) : Prop := (!(rm (nx F S w i).s (nx F S w i).l == rm (nx F S w i).s (nx F S w i).l)) = false
noncomputable def c11 (F : StepT) (rm : RoomT) (zb : ZeroT) (S : Scr) (n : Nat) (w : W4) (i : Nat) : Prop := (!(zb (nx F S w i).a (nx F S w i).m (nx F S w i).l == zb (nx F S w i).a (nx F S w i).m (nx F S w i).l)) = false
noncomputable def c12 (F : StepT) (rm : RoomT) (zb : ZeroT) (S : Scr) (n : Nat) (w : W4) (i : Nat) : Prop := decide ((nx F S w i).s < (nx F S w i).a) = false
noncomputable def c13 (F : StepT) (rm : RoomT) (zb : ZeroT) (S : Scr) (n : Nat) (w : W4) (i : Nat) : Prop := decide ((nx F S w i).m < (nx F S w i).s) = false
noncomputable def c14 (F : StepT) (rm : RoomT) (zb : ZeroT) (S : Scr) (n : Nat) (w : W4) (i : Nat) : Prop := IntKind.i64.wrap ((nx F S w i).l + 1) = (nx F S w i).l + 1
noncomputable def c15 (F : StepT) (rm : RoomT) (zb : ZeroT) (S : Scr) (n : Nat) (w : W4) (i : Nat) : Prop := decide (((nx F S w i).l + 1) < (nx F S w i).m) = false
noncomputable def c16 (F : StepT) (rm : RoomT) (zb : ZeroT) (S : Scr) (n : Nat) (w : W4) (i : Nat) : Prop := decide ((nx F S w i).a < w.a) = false
noncomputable def c17 (F : StepT) (rm : RoomT) (zb : ZeroT) (S : Scr) (n : Nat) (w : W4) (i : Nat) : Prop := decide ((nx F S w i).m < w.m) = false
noncomputable def c18 (F : StepT) (rm : RoomT) (zb : ZeroT) (S : Scr) (n : Nat) (w : W4) (i : Nat) : Prop := decide ((nx F S w i).l < w.l) = false
noncomputable def c19 (F : StepT) (rm : RoomT) (zb : ZeroT) (S : Scr) (n : Nat) (w : W4) (i : Nat) : Prop := IntKind.i64.wrap ((i : Int) + 1) = (i : Int) + 1
noncomputable def pB (F : StepT) (rm : RoomT) (zb : ZeroT) (S : Scr) (n : Nat) (w : W4) (i : Nat) : Prop :=
  (((((((((((((((((((((((((((((((((((((((((((((((((((((((((((True ∧ c0 F rm zb S n w i) ∧ c1 F rm zb S n w i) ∧ c2 F rm zb S n w i) ∧ c3 F rm zb S n w i) ∧ c4 F rm zb S n w i) ∧ c5 F rm zb S n w i) ∧ c6 F rm zb S n w i) ∧ c7 F rm zb S n w i) ∧ c8 F rm zb S n w i) ∧ c9 F rm zb S n w i) ∧ c9 F rm zb S n w i) ∧ c10 F rm zb S n w i) ∧ c10 F rm zb S n w i) ∧ c10 F rm zb S n w i) ∧ c4 F rm zb S n w i) ∧ c10 F rm zb S n w i) ∧ c4 F rm zb S n w i) ∧ c10 F rm zb S n w i) ∧ c10 F rm zb S n w i) ∧ c11 F rm zb S n w i) ∧ c11 F rm zb S n w i) ∧ c11 F rm zb S n w i) ∧ c11 F rm zb S n w i) ∧ c11 F rm zb S n w i) ∧ c11 F rm zb S n w i) ∧ c12 F rm zb S n w i) ∧ c12 F rm zb S n w i) ∧ c12 F rm zb S n w i) ∧ c12 F rm zb S n w i) ∧ c12 F rm zb S n w i) ∧ c12 F rm zb S n w i) ∧ c13 F rm zb S n w i) ∧ c13 F rm zb S n w i) ∧ c13 F rm zb S n w i) ∧ c13 F rm zb S n w i) ∧ c13 F rm zb S n w i) ∧ c14 F rm zb S n w i) ∧ c13 F rm zb S n w i) ∧ c13 F rm zb S n w i) ∧ c15 F rm zb S n w i) ∧ c15 F rm zb S n w i) ∧ c15 F rm zb S n w i) ∧ c15 F rm zb S n w i) ∧ c15 F rm zb S n w i) ∧ c15 F rm zb S n w i) ∧ c16 F rm zb S n w i) ∧ c16 F rm zb S n w i) ∧ c16 F rm zb S n w i) ∧ c16 F rm zb S n w i) ∧ c16 F rm zb S n w i) ∧ c16 F rm zb S n w i) ∧ c17 F rm zb S n w i) ∧ c17 F rm zb S n w i) ∧ c17 F rm zb S n w i) ∧ c17 F rm zb S n w i) ∧ c17 F rm zb S n w i) ∧ c17 F rm zb S n w i) ∧ c18 F rm zb S n w i) ∧ c19 F rm zb S n w i)
noncomputable def body : Code := loopB Try.prog 3 0
noncomputable def oB : List (Option Bool) := [some true, some true, some false, some true, none, none, none, some true, some true, some true, some true, none, none, none, none, none, none, none, some false, some false, some false, some false, some false, some false, some false, some false, some false, some false, some false, some false, some false, some false, some false, some false, some false, some false, some false, some false, some false, some false, some false, some true, some false, some false, some false, some false, some false, some false, some false, some false, some false, some false, some false, some false, some false, some false, some false, some false, some false, some false, some false, some false, some false, some true]
noncomputable def runE (F : StepT) (rm : RoomT) (zb : ZeroT) (S : Scr) (n c : Nat) (w : W4) (i : Nat) (rd : Option Nat) : Option (Exit × St) := (mk Try.prog (KL F rm zb) 200).code 3 rd body { mkL S n w (tE n c i) with obl := True, orc := oB }
noncomputable def runR (F : StepT) (rm : RoomT) (zb : ZeroT) (S : Scr) (n c : Nat) (w : W4) (i : Nat) (rd : Option Nat) : Option (Exit × St) := (mk Try.prog (KL F rm zb) 200).code 3 rd body { mkL S n w (tR n c i) with obl := True, orc := oB }
noncomputable def runX (F : StepT) (rm : RoomT) (zb : ZeroT) (S : Scr) (n c : Nat) (w : W4) (i : Nat) (rd : Option Nat) : Option (Exit × St) := (mk Try.prog (KL F rm zb) 200).code 3 rd body { mkL S n w (tR n c i) with obl := True, orc := [some false] }
noncomputable def pX (n i : Nat) : Prop := (True ∧ (decide (((i : Int)) < (n : Int)) = false))
section
variable (F : StepT) (rm : RoomT) (zb : ZeroT) (S : Scr) (n c : Nat) (w : W4) (i : Nat) (rd : Option Nat)
theorem eE : (runE F rm zb S n c w i rd).map (fun r => (r.1, r.2.obl)) = some (.normal, pB F rm zb S n w i) := by kernel_rfl
theorem eR : (runR F rm zb S n c w i rd).map (fun r => (r.1, r.2.obl)) = some (.normal, pB F rm zb S n w i) := by kernel_rfl
theorem eX : (runX F rm zb S n c w i rd).map (fun r => (r.1, r.2.obl)) = some (.exit 0, pX n i) := by kernel_rfl
noncomputable def sE : St := ((runE F rm zb S n c w i rd).map (·.2)).getD (mkL S n w (tE n c i))
noncomputable def sR : St := ((runR F rm zb S n c w i rd).map (·.2)).getD (mkL S n w (tR n c i))
noncomputable def sX : St := ((runX F rm zb S n c w i rd).map (·.2)).getD (mkL S n w (tR n c i))
theorem gE0 : (sE F rm zb S n c w i rd).heap.get 0 = some (.cells (.rows n 4 S.row) 0) := by kernel_rfl
theorem gE1 : (sE F rm zb S n c w i rd).heap.get 1 = some (.cells (.lit (W4.cells (nx F S w i))) 46) := by kernel_rfl
theorem gE2 : (sE F rm zb S n c w i rd).heap.get 2 = some (.cells (.lit (W4.row (nx F S w i))) 27) := by kernel_rfl
theorem mE : maskD (sE F rm zb S n c w i rd).tmps (mkL S n (nx F S w i) (tR n c (i + 1))).tmps = (mkL S n (nx F S w i) (tR n c (i + 1))).tmps.map (ren id) := by kernel_rfl
theorem rE : ((sE F rm zb S n c w i rd).roB, (sE F rm zb S n c w i rd).ro, (sE F rm zb S n c w i rd).defers) = (1, [], []) := by kernel_rfl
theorem dE : (sE F rm zb S n c w i rd).hid = fun _ => false := by kernel_rfl
theorem gR0 : (sR F rm zb S n c w i rd).heap.get 0 = some (.cells (.rows n 4 S.row) 0) := by kernel_rfl
theorem gR1 : (sR F rm zb S n c w i rd).heap.get 1 = some (.cells (.lit (W4.cells (nx F S w i))) 46) := by kernel_rfl
theorem gR2 : (sR F rm zb S n c w i rd).heap.get 2 = some (.cells (.lit (W4.row (nx F S w i))) 27) := by kernel_rfl
theorem mR : maskD (sR F rm zb S n c w i rd).tmps (mkL S n (nx F S w i) (tR n c (i + 1))).tmps = (mkL S n (nx F S w i) (tR n c (i + 1))).tmps.map (ren id) := by kernel_rfl
theorem rR : ((sR F rm zb S n c w i rd).roB, (sR F rm zb S n c w i rd).ro, (sR F rm zb S n c w i rd).defers) = (1, [], []) := by kernel_rfl
theorem dR : (sR F rm zb S n c w i rd).hid = fun _ => false := by kernel_rfl
theorem gX0 : (sX F rm zb S n c w i rd).heap.get 0 = some (.cells (.rows n 4 S.row) 0) := by kernel_rfl
theorem gX1 : (sX F rm zb S n c w i rd).heap.get 1 = some (.cells (.lit (W4.cells w)) 46) := by kernel_rfl
theorem gX2 : (sX F rm zb S n c w i rd).heap.get 2 = some (.cells (.lit (W4.row w)) 27) := by kernel_rfl
theorem mX : maskD (sX F rm zb S n c w i rd).tmps (mkL S n w (tR n c i)).tmps = (mkL S n w (tR n c i)).tmps.map (ren id) := by kernel_rfl
theorem rX : ((sX F rm zb S n c w i rd).roB, (sX F rm zb S n c w i rd).ro, (sX F rm zb S n c w i rd).defers) = (1, [], []) := by kernel_rfl
theorem dX : (sX F rm zb S n c w i rd).hid = fun _ => false := by kernel_rfl
end
theorem viewL {S : Scr} {n c i : Nat} {w w0 : W4} {t0 : List Value} {s1 : St} (h0 : s1.heap.get 0 = some (.cells (.rows n 4 S.row) 0)) (h1 : s1.heap.get 1 = some (.cells (.lit (W4.cells w)) 46)) (h2 : s1.heap.get 2 = some (.cells (.lit (W4.row w)) 27))
    (hm : maskD s1.tmps (mkL S n w (tR n c i)).tmps = (mkL S n w (tR n c i)).tmps.map (ren id)) (hr : (s1.roB, s1.ro, s1.defers) = (1, [], [])) (hd : s1.hid = fun _ => false) : View (mkL S n w0 t0) s1 (mkL S n w (tR n c i)) id := by
  simp only [Prod.mk.injEq] at hr
  obtain ⟨hr1, hr2, hr3⟩ := hr
  refine View.shed (f := hp S n w) (n := 3) rfl (by decide) rfl hr1.symm hr2.symm hd.symm hm (by kernel_rfl) (by rw [hr3]; rfl) rfl (fun b hb => ?_) (Nat.le_refl _) (fun b hb h => ?_) (fun b o hb h => ?_)
  · simp [okB, mkL, hb]
  · have : b = 0 := by
      rcases Nat.eq_zero_or_pos b with e | e
      · exact e
      · exfalso
        have h : (decide (1 ≤ b) && !List.contains [] b) = false := h
        simp at h
        omega
    subst this; exact h0.symm
  · rcases lt3 hb with rfl | rfl | rfl
    · simp only [hp, Option.some.injEq] at h; subst h; exact ⟨_, h0, ObV.rows fun i => rfl⟩
    · simp only [hp, Option.some.injEq] at h; subst h; exact ⟨_, h1, ObV.lit rfl rfl⟩
    · simp only [hp, Option.some.injEq] at h; subst h; exact ⟨_, h2, ObV.lit rfl rfl⟩
theorem stepE (S : Scr) (n c : Nat) (w0 w : W4) (t0 : List Value) (i : Nat) (rd : Option Nat) (hp : pB stepW roomI zeroB S n w i) : Step Try.prog rd (mkL S n w0 t0) body (mkL S n w (tE n c i)) (fun e s => e = .normal ∧ s = mkL S n (nx stepW S w i) (tR n c (i + 1))) :=
  Step.exec pg KL_ok (eE stepW roomI zeroB S n c w i rd) hp (Nat.le_refl _) (viewL (gE0 ..) (gE1 ..) (gE2 ..) (mE ..) (rE ..) (dE ..))
theorem stepR (S : Scr) (n c : Nat) (w0 w : W4) (t0 : List Value) (i : Nat) (rd : Option Nat) (hp : pB stepW roomI zeroB S n w i) : Step Try.prog rd (mkL S n w0 t0) body (mkL S n w (tR n c i)) (fun e s => e = .normal ∧ s = mkL S n (nx stepW S w i) (tR n c (i + 1))) :=
  Step.exec pg KL_ok (eR stepW roomI zeroB S n c w i rd) hp (Nat.le_refl _) (viewL (gR0 ..) (gR1 ..) (gR2 ..) (mR ..) (rR ..) (dR ..))
theorem stepX (S : Scr) (n c : Nat) (w0 w : W4) (t0 : List Value) (i : Nat) (rd : Option Nat) (hp : pX n i) : Step Try.prog rd (mkL S n w0 t0) body (mkL S n w (tR n c i)) (fun e s => e = .exit 0 ∧ s = mkL S n w (tR n c i)) :=
  Step.exec pg KL_ok (eX stepW roomI zeroB S n c w i rd) hp (Nat.le_refl _) (viewL (gX0 ..) (gX1 ..) (gX2 ..) (mX ..) (rX ..) (dX ..))
end

end wn
end Go.Proofs.Ythgiflgofdmamaa
