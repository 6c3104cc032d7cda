/- Read off the code by the clean reading. -/
import Derived.Test.YthgiflgofdmamabClnRc
import Derived.Test.YthgiflgofdmamabRows
import Derived.WalkKit
import Derived.ProofKit
import Derived.Below
import Derived.IntWalk
set_option linter.unusedVariables false
set_option linter.unusedSimpArgs false
set_option linter.deprecated false
set_option maxRecDepth 100000
namespace Go.Proofs.Ythgiflgofdmamab
open Go.ChangeShapes Go.WideShapes Go.ChangeAt Go.RowKit Go.Cln
namespace rn
set_option linter.unusedVariables false
set_option linter.unusedSimpArgs false
noncomputable def J11 : Array Value := #[junk, junk, junk, junk, junk, junk, junk, junk, junk, junk, junk]
noncomputable def foldC (S : Scr) (w : Clk) : Nat → Clk
  | 0 => w
  | i + 1 => doesF Zr (foldC S w i) (S.k i) (S.n i) (S.b i)
theorem fold_of (S : Scr) (B : Bd) (w : Clk) (h : Of B w) : ∀ i : Nat, Of B (foldC S w i)
  | 0 => h
  | i + 1 => by
    obtain ⟨hg, e0, e1, e2, e3⟩ := fold_of S B w h i
    obtain ⟨kg, k0, k1, k2, k3⟩ := does_keeps (foldC S w i) (S.k i) (S.n i) (S.b i) hg
    exact ⟨kg, k0.trans e0, k1.trans e1, k2.trans e2, k3.trans e3⟩
noncomputable def oC : List (Option Bool) := [some true, some true, some false, some true, some true]
noncomputable def pC (F : StepT) (S : Scr) (n : Nat) (w : Clk) (i : Nat) : Prop := (((((True ∧ decide ((i : Int) < (n : Int)) = true) ∧ (0 ≤ (i : Int) ∧ (i : Int) < (n : Int))) ∧ (ad i % 3 = 0 ∧ ad i / 3 < n)) ∧ ((⟨w.fi, w.le, w.mo, w.tr, w.an, w.sm, w.sp, w.wa, w.td, w.ru, w.si⟩ : Clk) = ⟨w.fi, w.le, w.mo, w.tr, w.an, w.sm, w.sp, w.wa, w.td, w.ru, w.si⟩ ∧ Gd ⟨w.fi, w.le, w.mo, w.tr, w.an, w.sm, w.sp, w.wa, w.td, w.ru, w.si⟩ ∧ wfT (S.n (aq i)))) ∧ IntKind.i64.wrap ((i : Int) + 1) = (i : Int) + 1)
noncomputable def pD (n i : Nat) : Prop := (True ∧ decide ((i : Int) < (n : Int)) = false)
theorem pD_ok (n : Nat) : pD n n := by unfold pD; simp
theorem pC_ok (S : Scr) (B : Bd) (n i : Nat) (w : Clk) (hi : i < n) (h40 : n ≤ 40) (hI : Of B w) (wf : wfT (S.n i)) : pC (doesF Zr) S n w i := by
  have ei : aq i = i := aq_eq i
  exact ⟨⟨⟨⟨⟨trivial, by simpa using hi⟩, by omega⟩, by unfold ad; omega⟩, rfl, hI.1, by rw [ei]; exact wf⟩, by rw [IntKind.wrap_i64]; omega⟩

end rn
end Go.Proofs.Ythgiflgofdmamab
namespace Go.Proofs.Ythgiflgofdmamab
open Go.ChangeShapes Go.WideShapes Go.ChangeAt Go.RowKit Go.Cln
namespace rn
set_option linter.unusedVariables false
set_option linter.unusedSimpArgs false
namespace L0rr
noncomputable def hp (B : Bd) (SA SB : Scr) (nA cA nB cB : Nat) (u x w : Clk) : Nat → Option Ob := fun i => match i with
  | 0 => some (.cells (.rows nA 3 SA.row) 0)
  | 1 => some (.cells (.rows nB 3 SB.row) 0)
  | 2 => some (.cells (.lit B.row) 23)
  | 3 => some (.cells (.lit B.row) 23)
  | 4 => some (.cells (.lit [.int .i64 1, .int .i64 B.le, .int .i64 B.fi, .int .i64 B.mo, .int .i64 65536]) 3)
  | 5 => some (.cells (.lit [.int .i64 1, .int .i64 B.tr, .int .i64 100]) 3)
  | 6 => some (.cells (.lit (Clk.cells w)) 53)
  | 7 => some (.cells (.lit B.row) 23)
  | 8 => some (.cells (.lit (Clk.doc (newC B))) 32)
  | 9 => some (.cells (.lit (Clk.doc w)) 32)
  | _ => none
noncomputable def mkL (B : Bd) (SA SB : Scr) (nA cA nB cB : Nat) (u x w : Clk) (t : List Value) : St := ⟨t, [], Tr.rebuild (hp B SA SB nA cA nB cB u x w) 10, 10, 2, [], fun _ => false, True, []⟩
noncomputable def tE (B : Bd) (SA SB : Scr) (nA cA nB cB : Nat) (u x w : Clk) (i : Nat) : List Value := [.agg B.row.toArray, .slice (some ⟨0, 0, none⟩) nA cA, .slice (some ⟨1, 0, none⟩) nB cB, P0 2 0] ++ U 2 ++ [.bool false, P0 6 0, .int .i64 0, P0 9 0, .int .i64 (i : Int)] ++ U 5 ++ J 8 ++ U 1 ++ [.tuple #[P0 6 0, .int .i64 0], .agg B.row.toArray, .tuple #[P0 6 0, .int .i64 0]] ++ J 4 ++ U 1 ++ [.agg B.row.toArray, .agg (newC B).doc.toArray] ++ U 75
noncomputable def tR (B : Bd) (SA SB : Scr) (nA cA nB cB : Nat) (u x w : Clk) (i : Nat) : List Value := [.agg B.row.toArray, .slice (some ⟨0, 0, none⟩) nA cA, .slice (some ⟨1, 0, none⟩) nB cB, P0 2 0] ++ U 2 ++ [.bool false, P0 6 0, .int .i64 0, P0 9 0, .int .i64 (i : Int)] ++ U 5 ++ J 8 ++ U 1 ++ [.tuple #[P0 6 0, .int .i64 0], .agg B.row.toArray, .tuple #[P0 6 0, .int .i64 0]] ++ J 4 ++ U 1 ++ [.agg B.row.toArray, .agg (newC B).doc.toArray] ++ J 6 ++ [.tuple #[.agg J11, junk]] ++ J 1 ++ [.agg J11] ++ J 3 ++ [.agg #[junk, junk, junk], .tuple #[.agg J11, junk], .agg J11] ++ J 1 ++ U 59
noncomputable def E (B : Bd) (SA SB : Scr) (nA cA nB cB : Nat) (u x w : Clk) (i : Nat) : St := mkL B SA SB nA cA nB cB u x w (tE B SA SB nA cA nB cB u x w i)
noncomputable def R (B : Bd) (SA SB : Scr) (nA cA nB cB : Nat) (u x w : Clk) (i : Nat) : St := mkL B SA SB nA cA nB cB u x w (tR B SA SB nA cA nB cB u x w i)
noncomputable def body : Code := loopB Try.prog 4 0
section
variable (F : StepT) (B : Bd) (SA SB : Scr) (nA cA nB cB : Nat) (u x w : Clk) (i : Nat) (rd : Option Nat)
noncomputable def runE : Option (Exit × St) := (mk Try.prog (KL F) 200).code 4 rd body { E B SA SB nA cA nB cB u x w i with obl := True, orc := oC }
theorem eE : (runE F B SA SB nA cA nB cB u x w i rd).map (fun r => (r.1, r.2.obl)) = some (.normal, pC F SA nA w i) := by kernel_rfl
noncomputable def sE : St := ((runE F B SA SB nA cA nB cB u x w i rd).map (·.2)).getD (E B SA SB nA cA nB cB u x w i)
theorem gE : (List.range 10).map (sE F B SA SB nA cA nB cB u x w i rd).heap.get = (List.range 10).map (hp B SA SB nA cA nB cB u x (nx F SA w i)) := by kernel_rfl
theorem mE : maskD (sE F B SA SB nA cA nB cB u x w i rd).tmps (R B SA SB nA cA nB cB u x (nx F SA w i) (i + 1)).tmps = (R B SA SB nA cA nB cB u x (nx F SA w i) (i + 1)).tmps.map (ren id) := by kernel_rfl
theorem rE : ((sE F B SA SB nA cA nB cB u x w i rd).roB, (sE F B SA SB nA cA nB cB u x w i rd).ro, (sE F B SA SB nA cA nB cB u x w i rd).defers) = (2, [], []) := by kernel_rfl
theorem dE : (sE F B SA SB nA cA nB cB u x w i rd).hid = fun _ => false := by kernel_rfl
noncomputable def runR : Option (Exit × St) := (mk Try.prog (KL F) 200).code 4 rd body { R B SA SB nA cA nB cB u x w i with obl := True, orc := oC }
theorem eR : (runR F B SA SB nA cA nB cB u x w i rd).map (fun r => (r.1, r.2.obl)) = some (.normal, pC F SA nA w i) := by kernel_rfl
noncomputable def sR : St := ((runR F B SA SB nA cA nB cB u x w i rd).map (·.2)).getD (R B SA SB nA cA nB cB u x w i)
theorem gR : (List.range 10).map (sR F B SA SB nA cA nB cB u x w i rd).heap.get = (List.range 10).map (hp B SA SB nA cA nB cB u x (nx F SA w i)) := by kernel_rfl
theorem mR : maskD (sR F B SA SB nA cA nB cB u x w i rd).tmps (R B SA SB nA cA nB cB u x (nx F SA w i) (i + 1)).tmps = (R B SA SB nA cA nB cB u x (nx F SA w i) (i + 1)).tmps.map (ren id) := by kernel_rfl
theorem rR : ((sR F B SA SB nA cA nB cB u x w i rd).roB, (sR F B SA SB nA cA nB cB u x w i rd).ro, (sR F B SA SB nA cA nB cB u x w i rd).defers) = (2, [], []) := by kernel_rfl
theorem dR : (sR F B SA SB nA cA nB cB u x w i rd).hid = fun _ => false := by kernel_rfl
noncomputable def runX : Option (Exit × St) := (mk Try.prog (KL F) 200).code 4 rd body { R B SA SB nA cA nB cB u x w i with obl := True, orc := [some false] }
theorem eX : (runX F B SA SB nA cA nB cB u x w i rd).map (fun r => (r.1, r.2.obl)) = some (.exit 0, pD nA i) := by kernel_rfl
noncomputable def sX : St := ((runX F B SA SB nA cA nB cB u x w i rd).map (·.2)).getD (R B SA SB nA cA nB cB u x w i)
theorem gX : (List.range 10).map (sX F B SA SB nA cA nB cB u x w i rd).heap.get = (List.range 10).map (hp B SA SB nA cA nB cB u x w) := by kernel_rfl
theorem mX : maskD (sX F B SA SB nA cA nB cB u x w i rd).tmps (R B SA SB nA cA nB cB u x w i).tmps = (R B SA SB nA cA nB cB u x w i).tmps.map (ren id) := by kernel_rfl
theorem rX : ((sX F B SA SB nA cA nB cB u x w i rd).roB, (sX F B SA SB nA cA nB cB u x w i rd).ro, (sX F B SA SB nA cA nB cB u x w i rd).defers) = (2, [], []) := by kernel_rfl
theorem dX : (sX F B SA SB nA cA nB cB u x w i rd).hid = fun _ => false := by kernel_rfl
end
theorem obB {s2 : St} {B : Bd} {SA SB : Scr} {nA cA nB cB : Nat} {u x w : Clk} : ∀ {j : Nat} {o : Ob}, hp B SA SB nA cA nB cB u x w j = some o → ObV s2 id o o
  | 0, _, h => by cases h; exact ObV.rows fun _ => rfl
  | 1, _, h => by cases h; exact ObV.rows fun _ => rfl
  | 2, _, h => by cases h; exact ObV.lit rfl rfl
  | 3, _, h => by cases h; exact ObV.lit rfl rfl
  | 4, _, h => by cases h; exact ObV.lit rfl rfl
  | 5, _, h => by cases h; exact ObV.lit rfl rfl
  | 6, _, h => by cases h; exact ObV.lit rfl rfl
  | 7, _, h => by cases h; exact ObV.lit rfl rfl
  | 8, _, h => by cases h; exact ObV.lit rfl rfl
  | 9, _, h => by cases h; exact ObV.lit rfl rfl
  | n + 10, _, h => by cases h
theorem viewL {B : Bd} {SA SB : Scr} {nA cA nB cB : Nat} {u x w : Clk} {i : Nat} {s0 s1 : St} (h0n : s0.next = 10) (hg : (List.range 10).map s1.heap.get = (List.range 10).map (hp B SA SB nA cA nB cB u x w))
    (hm : maskD s1.tmps (R B SA SB nA cA nB cB u x w i).tmps = (R B SA SB nA cA nB cB u x w i).tmps.map (ren id)) (hr : (s1.roB, s1.ro, s1.defers) = (2, [], [])) (hd : s1.hid = fun _ => false) : View s0 s1 (R B SA SB nA cA nB cB u x w i) id := by
  simp only [Prod.mk.injEq] at hr
  obtain ⟨hr1, hr2, hr3⟩ := hr
  have get : ∀ j, j < 10 → s1.heap.get j = hp B SA SB nA cA nB cB u x w j := fun j hj => by
    have := congrArg (fun l => l[j]?) hg
    simpa [List.getElem?_map, List.getElem?_range hj] using this
  refine View.shed (f := hp B SA SB nA cA nB cB u x w) (n := 10) rfl (by decide) rfl hr1.symm hr2.symm hd.symm hm (by kernel_rfl) (by rw [hr3]; rfl) rfl (fun b hb => ?_) (Nat.le_of_eq h0n) (fun b hb h => (get b (by omega)).symm) (fun b o hb h => ⟨o, by rw [get b hb, h], obB h⟩)
  simp [okB, R, mkL, hb]
theorem stepE (B : Bd) (SA SB : Scr) (nA cA nB cB : Nat) (u x w : Clk) (i : Nat) (rd : Option Nat) (w0 : Clk) (t0 : List Value) (hp : pC (doesF Zr) SA nA w i) : Step Try.prog rd (mkL B SA SB nA cA nB cB u x w0 t0) body (E B SA SB nA cA nB cB u x w i) (fun e s => e = .normal ∧ s = R B SA SB nA cA nB cB u x (nx (doesF Zr) SA w i) (i + 1)) :=
  Step.exec pg KL_ok (eE (doesF Zr) B SA SB nA cA nB cB u x w i rd) hp (Nat.le_refl _) (viewL rfl (gE ..) (mE ..) (rE ..) (dE ..))
theorem stepR (B : Bd) (SA SB : Scr) (nA cA nB cB : Nat) (u x w : Clk) (i : Nat) (rd : Option Nat) (w0 : Clk) (t0 : List Value) (hp : pC (doesF Zr) SA nA w i) : Step Try.prog rd (mkL B SA SB nA cA nB cB u x w0 t0) body (R B SA SB nA cA nB cB u x w i) (fun e s => e = .normal ∧ s = R B SA SB nA cA nB cB u x (nx (doesF Zr) SA w i) (i + 1)) :=
  Step.exec pg KL_ok (eR (doesF Zr) B SA SB nA cA nB cB u x w i rd) hp (Nat.le_refl _) (viewL rfl (gR ..) (mR ..) (rR ..) (dR ..))
theorem stepX (B : Bd) (SA SB : Scr) (nA cA nB cB : Nat) (u x w : Clk) (i : Nat) (rd : Option Nat) (w0 : Clk) (t0 : List Value) (hp : pD nA i) : Step Try.prog rd (mkL B SA SB nA cA nB cB u x w0 t0) body (R B SA SB nA cA nB cB u x w i) (fun e s => e = .exit 0 ∧ s = R B SA SB nA cA nB cB u x w i) :=
  Step.exec pg KL_ok (eX (doesF Zr) B SA SB nA cA nB cB u x w i rd) hp (Nat.le_refl _) (viewL rfl (gX ..) (mX ..) (rX ..) (dX ..))
theorem loopOk (B : Bd) (SA SB : Scr) (nA cA nB cB : Nat) (u x w : Clk) (hn : 0 < nA) (h40 : nA ≤ 40) (hI : Of B w) (wf : ∀ i, i < nA → wfT (SA.n i)) (rd : Option Nat) : CodeOk Try.prog rd (.loop body) (E B SA SB nA cA nB cB u x w 0) (.exit 0) (R B SA SB nA cA nB cB u x (foldC SA w nA) nA) := by
  refine CodeOk.of_step (Step.loop (fun k y => (k = nA + 1 ∧ y = E B SA SB nA cA nB cB u x w 0) ∨ ∃ i : Nat, 1 ≤ i ∧ i ≤ nA ∧ k = nA - i ∧ y = R B SA SB nA cA nB cB u x (foldC SA w i) i) ?_ (nA + 1) _ (.inl ⟨rfl, rfl⟩))
  rintro k y (⟨rfl, rfl⟩ | ⟨i, h1, h2, rfl, rfl⟩)
  · refine (stepE B SA SB nA cA nB cB u x w 0 rd w _ (pC_ok SA B nA 0 w hn h40 hI (wf 0 hn))).mono ?_
    rintro e s ⟨rfl, rfl⟩
    refine .inl ⟨rfl, nA - 1, by omega, .inr ⟨1, by omega, by omega, rfl, ?_⟩⟩
    rw [nx_eq]; rfl
  · by_cases e : i = nA
    · subst e
      refine (stepX B SA SB i cA nB cB u x (foldC SA w i) i rd w _ (pD_ok i)).mono ?_
      rintro e s ⟨rfl, rfl⟩
      exact .inr ⟨(by intro x; cases x), rfl, rfl⟩
    · have hlt : i < nA := by omega
      refine (stepR B SA SB nA cA nB cB u x (foldC SA w i) i rd w _ (pC_ok SA B nA i _ hlt h40 (fold_of SA B w hI i) (wf i hlt))).mono ?_
      rintro e s ⟨rfl, rfl⟩
      refine .inl ⟨rfl, nA - (i + 1), by omega, .inr ⟨i + 1, by omega, by omega, rfl, ?_⟩⟩
      rw [nx_eq]; rfl
noncomputable def J : List Nat := [16, 17, 18, 19, 20, 21, 22, 23, 28, 29, 30, 31]
end L0rr
namespace L0rn
noncomputable def hp (B : Bd) (SA SB : Scr) (nA cA nB cB : Nat) (u x w : Clk) : Nat → Option Ob := fun i => match i with
  | 0 => some (.cells (.rows nA 3 SA.row) 0)
  | 1 => none
  | 2 => some (.cells (.lit B.row) 23)
  | 3 => some (.cells (.lit B.row) 23)
  | 4 => some (.cells (.lit [.int .i64 1, .int .i64 B.le, .int .i64 B.fi, .int .i64 B.mo, .int .i64 65536]) 3)
  | 5 => some (.cells (.lit [.int .i64 1, .int .i64 B.tr, .int .i64 100]) 3)
  | 6 => some (.cells (.lit (Clk.cells w)) 53)
  | 7 => some (.cells (.lit B.row) 23)
  | 8 => some (.cells (.lit (Clk.doc (newC B))) 32)
  | 9 => some (.cells (.lit (Clk.doc w)) 32)
  | _ => none
noncomputable def mkL (B : Bd) (SA SB : Scr) (nA cA nB cB : Nat) (u x w : Clk) (t : List Value) : St := ⟨t, [], Tr.rebuild (hp B SA SB nA cA nB cB u x w) 10, 10, 2, [], fun _ => false, True, []⟩
noncomputable def tE (B : Bd) (SA SB : Scr) (nA cA nB cB : Nat) (u x w : Clk) (i : Nat) : List Value := [.agg B.row.toArray, .slice (some ⟨0, 0, none⟩) nA cA, .slice none 0 0, P0 2 0] ++ U 2 ++ [.bool false, P0 6 0, .int .i64 0, P0 9 0, .int .i64 (i : Int)] ++ U 5 ++ J 8 ++ U 1 ++ [.tuple #[P0 6 0, .int .i64 0], .agg B.row.toArray, .tuple #[P0 6 0, .int .i64 0]] ++ J 4 ++ U 1 ++ [.agg B.row.toArray, .agg (newC B).doc.toArray] ++ U 75
noncomputable def tR (B : Bd) (SA SB : Scr) (nA cA nB cB : Nat) (u x w : Clk) (i : Nat) : List Value := [.agg B.row.toArray, .slice (some ⟨0, 0, none⟩) nA cA, .slice none 0 0, P0 2 0] ++ U 2 ++ [.bool false, P0 6 0, .int .i64 0, P0 9 0, .int .i64 (i : Int)] ++ U 5 ++ J 8 ++ U 1 ++ [.tuple #[P0 6 0, .int .i64 0], .agg B.row.toArray, .tuple #[P0 6 0, .int .i64 0]] ++ J 4 ++ U 1 ++ [.agg B.row.toArray, .agg (newC B).doc.toArray] ++ J 6 ++ [.tuple #[.agg J11, junk]] ++ J 1 ++ [.agg J11] ++ J 3 ++ [.agg #[junk, junk, junk], .tuple #[.agg J11, junk], .agg J11] ++ J 1 ++ U 59
noncomputable def E (B : Bd) (SA SB : Scr) (nA cA nB cB : Nat) (u x w : Clk) (i : Nat) : St := mkL B SA SB nA cA nB cB u x w (tE B SA SB nA cA nB cB u x w i)
noncomputable def R (B : Bd) (SA SB : Scr) (nA cA nB cB : Nat) (u x w : Clk) (i : Nat) : St := mkL B SA SB nA cA nB cB u x w (tR B SA SB nA cA nB cB u x w i)
noncomputable def body : Code := loopB Try.prog 4 0
section
variable (F : StepT) (B : Bd) (SA SB : Scr) (nA cA nB cB : Nat) (u x w : Clk) (i : Nat) (rd : Option Nat)
noncomputable def runE : Option (Exit × St) := (mk Try.prog (KL F) 200).code 4 rd body { E B SA SB nA cA nB cB u x w i with obl := True, orc := oC }
theorem eE : (runE F B SA SB nA cA nB cB u x w i rd).map (fun r => (r.1, r.2.obl)) = some (.normal, pC F SA nA w i) := by kernel_rfl
noncomputable def sE : St := ((runE F B SA SB nA cA nB cB u x w i rd).map (·.2)).getD (E B SA SB nA cA nB cB u x w i)
theorem gE : (List.range 10).map (sE F B SA SB nA cA nB cB u x w i rd).heap.get = (List.range 10).map (hp B SA SB nA cA nB cB u x (nx F SA w i)) := by kernel_rfl
theorem mE : maskD (sE F B SA SB nA cA nB cB u x w i rd).tmps (R B SA SB nA cA nB cB u x (nx F SA w i) (i + 1)).tmps = (R B SA SB nA cA nB cB u x (nx F SA w i) (i + 1)).tmps.map (ren id) := by kernel_rfl
theorem rE : ((sE F B SA SB nA cA nB cB u x w i rd).roB, (sE F B SA SB nA cA nB cB u x w i rd).ro, (sE F B SA SB nA cA nB cB u x w i rd).defers) = (2, [], []) := by kernel_rfl
theorem dE : (sE F B SA SB nA cA nB cB u x w i rd).hid = fun _ => false := by kernel_rfl
noncomputable def runR : Option (Exit × St) := (mk Try.prog (KL F) 200).code 4 rd body { R B SA SB nA cA nB cB u x w i with obl := True, orc := oC }
theorem eR : (runR F B SA SB nA cA nB cB u x w i rd).map (fun r => (r.1, r.2.obl)) = some (.normal, pC F SA nA w i) := by kernel_rfl
noncomputable def sR : St := ((runR F B SA SB nA cA nB cB u x w i rd).map (·.2)).getD (R B SA SB nA cA nB cB u x w i)
theorem gR : (List.range 10).map (sR F B SA SB nA cA nB cB u x w i rd).heap.get = (List.range 10).map (hp B SA SB nA cA nB cB u x (nx F SA w i)) := by kernel_rfl
theorem mR : maskD (sR F B SA SB nA cA nB cB u x w i rd).tmps (R B SA SB nA cA nB cB u x (nx F SA w i) (i + 1)).tmps = (R B SA SB nA cA nB cB u x (nx F SA w i) (i + 1)).tmps.map (ren id) := by kernel_rfl
theorem rR : ((sR F B SA SB nA cA nB cB u x w i rd).roB, (sR F B SA SB nA cA nB cB u x w i rd).ro, (sR F B SA SB nA cA nB cB u x w i rd).defers) = (2, [], []) := by kernel_rfl
theorem dR : (sR F B SA SB nA cA nB cB u x w i rd).hid = fun _ => false := by kernel_rfl
noncomputable def runX : Option (Exit × St) := (mk Try.prog (KL F) 200).code 4 rd body { R B SA SB nA cA nB cB u x w i with obl := True, orc := [some false] }
theorem eX : (runX F B SA SB nA cA nB cB u x w i rd).map (fun r => (r.1, r.2.obl)) = some (.exit 0, pD nA i) := by kernel_rfl
noncomputable def sX : St := ((runX F B SA SB nA cA nB cB u x w i rd).map (·.2)).getD (R B SA SB nA cA nB cB u x w i)
theorem gX : (List.range 10).map (sX F B SA SB nA cA nB cB u x w i rd).heap.get = (List.range 10).map (hp B SA SB nA cA nB cB u x w) := by kernel_rfl
theorem mX : maskD (sX F B SA SB nA cA nB cB u x w i rd).tmps (R B SA SB nA cA nB cB u x w i).tmps = (R B SA SB nA cA nB cB u x w i).tmps.map (ren id) := by kernel_rfl
theorem rX : ((sX F B SA SB nA cA nB cB u x w i rd).roB, (sX F B SA SB nA cA nB cB u x w i rd).ro, (sX F B SA SB nA cA nB cB u x w i rd).defers) = (2, [], []) := by kernel_rfl
theorem dX : (sX F B SA SB nA cA nB cB u x w i rd).hid = fun _ => false := by kernel_rfl
end
theorem obB {s2 : St} {B : Bd} {SA SB : Scr} {nA cA nB cB : Nat} {u x w : Clk} : ∀ {j : Nat} {o : Ob}, hp B SA SB nA cA nB cB u x w j = some o → ObV s2 id o o
  | 0, _, h => by cases h; exact ObV.rows fun _ => rfl
  | 1, _, h => by cases h
  | 2, _, h => by cases h; exact ObV.lit rfl rfl
  | 3, _, h => by cases h; exact ObV.lit rfl rfl
  | 4, _, h => by cases h; exact ObV.lit rfl rfl
  | 5, _, h => by cases h; exact ObV.lit rfl rfl
  | 6, _, h => by cases h; exact ObV.lit rfl rfl
  | 7, _, h => by cases h; exact ObV.lit rfl rfl
  | 8, _, h => by cases h; exact ObV.lit rfl rfl
  | 9, _, h => by cases h; exact ObV.lit rfl rfl
  | n + 10, _, h => by cases h
theorem viewL {B : Bd} {SA SB : Scr} {nA cA nB cB : Nat} {u x w : Clk} {i : Nat} {s0 s1 : St} (h0n : s0.next = 10) (hg : (List.range 10).map s1.heap.get = (List.range 10).map (hp B SA SB nA cA nB cB u x w))
    (hm : maskD s1.tmps (R B SA SB nA cA nB cB u x w i).tmps = (R B SA SB nA cA nB cB u x w i).tmps.map (ren id)) (hr : (s1.roB, s1.ro, s1.defers) = (2, [], [])) (hd : s1.hid = fun _ => false) : View s0 s1 (R B SA SB nA cA nB cB u x w i) id := by
  simp only [Prod.mk.injEq] at hr
  obtain ⟨hr1, hr2, hr3⟩ := hr
  have get : ∀ j, j < 10 → s1.heap.get j = hp B SA SB nA cA nB cB u x w j := fun j hj => by
    have := congrArg (fun l => l[j]?) hg
    simpa [List.getElem?_map, List.getElem?_range hj] using this
  refine View.shed (f := hp B SA SB nA cA nB cB u x w) (n := 10) rfl (by decide) rfl hr1.symm hr2.symm hd.symm hm (by kernel_rfl) (by rw [hr3]; rfl) rfl (fun b hb => ?_) (Nat.le_of_eq h0n) (fun b hb h => (get b (by omega)).symm) (fun b o hb h => ⟨o, by rw [get b hb, h], obB h⟩)
  simp [okB, R, mkL, hb]
theorem stepE (B : Bd) (SA SB : Scr) (nA cA nB cB : Nat) (u x w : Clk) (i : Nat) (rd : Option Nat) (w0 : Clk) (t0 : List Value) (hp : pC (doesF Zr) SA nA w i) : Step Try.prog rd (mkL B SA SB nA cA nB cB u x w0 t0) body (E B SA SB nA cA nB cB u x w i) (fun e s => e = .normal ∧ s = R B SA SB nA cA nB cB u x (nx (doesF Zr) SA w i) (i + 1)) :=
  Step.exec pg KL_ok (eE (doesF Zr) B SA SB nA cA nB cB u x w i rd) hp (Nat.le_refl _) (viewL rfl (gE ..) (mE ..) (rE ..) (dE ..))
theorem stepR (B : Bd) (SA SB : Scr) (nA cA nB cB : Nat) (u x w : Clk) (i : Nat) (rd : Option Nat) (w0 : Clk) (t0 : List Value) (hp : pC (doesF Zr) SA nA w i) : Step Try.prog rd (mkL B SA SB nA cA nB cB u x w0 t0) body (R B SA SB nA cA nB cB u x w i) (fun e s => e = .normal ∧ s = R B SA SB nA cA nB cB u x (nx (doesF Zr) SA w i) (i + 1)) :=
  Step.exec pg KL_ok (eR (doesF Zr) B SA SB nA cA nB cB u x w i rd) hp (Nat.le_refl _) (viewL rfl (gR ..) (mR ..) (rR ..) (dR ..))
theorem stepX (B : Bd) (SA SB : Scr) (nA cA nB cB : Nat) (u x w : Clk) (i : Nat) (rd : Option Nat) (w0 : Clk) (t0 : List Value) (hp : pD nA i) : Step Try.prog rd (mkL B SA SB nA cA nB cB u x w0 t0) body (R B SA SB nA cA nB cB u x w i) (fun e s => e = .exit 0 ∧ s = R B SA SB nA cA nB cB u x w i) :=
  Step.exec pg KL_ok (eX (doesF Zr) B SA SB nA cA nB cB u x w i rd) hp (Nat.le_refl _) (viewL rfl (gX ..) (mX ..) (rX ..) (dX ..))
theorem loopOk (B : Bd) (SA SB : Scr) (nA cA nB cB : Nat) (u x w : Clk) (hn : 0 < nA) (h40 : nA ≤ 40) (hI : Of B w) (wf : ∀ i, i < nA → wfT (SA.n i)) (rd : Option Nat) : CodeOk Try.prog rd (.loop body) (E B SA SB nA cA nB cB u x w 0) (.exit 0) (R B SA SB nA cA nB cB u x (foldC SA w nA) nA) := by
  refine CodeOk.of_step (Step.loop (fun k y => (k = nA + 1 ∧ y = E B SA SB nA cA nB cB u x w 0) ∨ ∃ i : Nat, 1 ≤ i ∧ i ≤ nA ∧ k = nA - i ∧ y = R B SA SB nA cA nB cB u x (foldC SA w i) i) ?_ (nA + 1) _ (.inl ⟨rfl, rfl⟩))
  rintro k y (⟨rfl, rfl⟩ | ⟨i, h1, h2, rfl, rfl⟩)
  · refine (stepE B SA SB nA cA nB cB u x w 0 rd w _ (pC_ok SA B nA 0 w hn h40 hI (wf 0 hn))).mono ?_
    rintro e s ⟨rfl, rfl⟩
    refine .inl ⟨rfl, nA - 1, by omega, .inr ⟨1, by omega, by omega, rfl, ?_⟩⟩
    rw [nx_eq]; rfl
  · by_cases e : i = nA
    · subst e
      refine (stepX B SA SB i cA nB cB u x (foldC SA w i) i rd w _ (pD_ok i)).mono ?_
      rintro e s ⟨rfl, rfl⟩
      exact .inr ⟨(by intro x; cases x), rfl, rfl⟩
    · have hlt : i < nA := by omega
      refine (stepR B SA SB nA cA nB cB u x (foldC SA w i) i rd w _ (pC_ok SA B nA i _ hlt h40 (fold_of SA B w hI i) (wf i hlt))).mono ?_
      rintro e s ⟨rfl, rfl⟩
      refine .inl ⟨rfl, nA - (i + 1), by omega, .inr ⟨i + 1, by omega, by omega, rfl, ?_⟩⟩
      rw [nx_eq]; rfl
noncomputable def J : List Nat := [16, 17, 18, 19, 20, 21, 22, 23, 28, 29, 30, 31]
end L0rn
namespace L0rz
noncomputable def hp (B : Bd) (SA SB : Scr) (nA cA nB cB : Nat) (u x w : Clk) : Nat → Option Ob := fun i => match i with
  | 0 => some (.cells (.rows nA 3 SA.row) 0)
  | 1 => none
  | 2 => some (.cells (.lit B.row) 23)
  | 3 => some (.cells (.lit B.row) 23)
  | 4 => some (.cells (.lit [.int .i64 1, .int .i64 B.le, .int .i64 B.fi, .int .i64 B.mo, .int .i64 65536]) 3)
  | 5 => some (.cells (.lit [.int .i64 1, .int .i64 B.tr, .int .i64 100]) 3)
  | 6 => some (.cells (.lit (Clk.cells w)) 53)
  | 7 => some (.cells (.lit B.row) 23)
  | 8 => some (.cells (.lit (Clk.doc (newC B))) 32)
  | 9 => some (.cells (.lit (Clk.doc w)) 32)
  | _ => none
noncomputable def mkL (B : Bd) (SA SB : Scr) (nA cA nB cB : Nat) (u x w : Clk) (t : List Value) : St := ⟨t, [], Tr.rebuild (hp B SA SB nA cA nB cB u x w) 10, 10, 2, [], fun _ => false, True, []⟩
noncomputable def tE (B : Bd) (SA SB : Scr) (nA cA nB cB : Nat) (u x w : Clk) (i : Nat) : List Value := [.agg B.row.toArray, .slice (some ⟨0, 0, none⟩) nA cA, .slice (some ⟨1, 0, none⟩) 0 cB, P0 2 0] ++ U 2 ++ [.bool false, P0 6 0, .int .i64 0, P0 9 0, .int .i64 (i : Int)] ++ U 5 ++ J 8 ++ U 1 ++ [.tuple #[P0 6 0, .int .i64 0], .agg B.row.toArray, .tuple #[P0 6 0, .int .i64 0]] ++ J 4 ++ U 1 ++ [.agg B.row.toArray, .agg (newC B).doc.toArray] ++ U 75
noncomputable def tR (B : Bd) (SA SB : Scr) (nA cA nB cB : Nat) (u x w : Clk) (i : Nat) : List Value := [.agg B.row.toArray, .slice (some ⟨0, 0, none⟩) nA cA, .slice (some ⟨1, 0, none⟩) 0 cB, P0 2 0] ++ U 2 ++ [.bool false, P0 6 0, .int .i64 0, P0 9 0, .int .i64 (i : Int)] ++ U 5 ++ J 8 ++ U 1 ++ [.tuple #[P0 6 0, .int .i64 0], .agg B.row.toArray, .tuple #[P0 6 0, .int .i64 0]] ++ J 4 ++ U 1 ++ [.agg B.row.toArray, .agg (newC B).doc.toArray] ++ J 6 ++ [.tuple #[.agg J11, junk]] ++ J 1 ++ [.agg J11] ++ J 3 ++ [.agg #[junk, junk, junk], .tuple #[.agg J11, junk], .agg J11] ++ J 1 ++ U 59
noncomputable def E (B : Bd) (SA SB : Scr) (nA cA nB cB : Nat) (u x w : Clk) (i : Nat) : St := mkL B SA SB nA cA nB cB u x w (tE B SA SB nA cA nB cB u x w i)
noncomputable def R (B : Bd) (SA SB : Scr) (nA cA nB cB : Nat) (u x w : Clk) (i : Nat) : St := mkL B SA SB nA cA nB cB u x w (tR B SA SB nA cA nB cB u x w i)
noncomputable def body : Code := loopB Try.prog 4 0
section
variable (F : StepT) (B : Bd) (SA SB : Scr) (nA cA nB cB : Nat) (u x w : Clk) (i : Nat) (rd : Option Nat)
noncomputable def runE : Option (Exit × St) := (mk Try.prog (KL F) 200).code 4 rd body { E B SA SB nA cA nB cB u x w i with obl := True, orc := oC }
theorem eE : (runE F B SA SB nA cA nB cB u x w i rd).map (fun r => (r.1, r.2.obl)) = some (.normal, pC F SA nA w i) := by kernel_rfl
noncomputable def sE : St := ((runE F B SA SB nA cA nB cB u x w i rd).map (·.2)).getD (E B SA SB nA cA nB cB u x w i)
theorem gE : (List.range 10).map (sE F B SA SB nA cA nB cB u x w i rd).heap.get = (List.range 10).map (hp B SA SB nA cA nB cB u x (nx F SA w i)) := by kernel_rfl
theorem mE : maskD (sE F B SA SB nA cA nB cB u x w i rd).tmps (R B SA SB nA cA nB cB u x (nx F SA w i) (i + 1)).tmps = (R B SA SB nA cA nB cB u x (nx F SA w i) (i + 1)).tmps.map (ren id) := by kernel_rfl
theorem rE : ((sE F B SA SB nA cA nB cB u x w i rd).roB, (sE F B SA SB nA cA nB cB u x w i rd).ro, (sE F B SA SB nA cA nB cB u x w i rd).defers) = (2, [], []) := by kernel_rfl
theorem dE : (sE F B SA SB nA cA nB cB u x w i rd).hid = fun _ => false := by kernel_rfl
noncomputable def runR : Option (Exit × St) := (mk Try.prog (KL F) 200).code 4 rd body { R B SA SB nA cA nB cB u x w i with obl := True, orc := oC }
theorem eR : (runR F B SA SB nA cA nB cB u x w i rd).map (fun r => (r.1, r.2.obl)) = some (.normal, pC F SA nA w i) := by kernel_rfl
noncomputable def sR : St := ((runR F B SA SB nA cA nB cB u x w i rd).map (·.2)).getD (R B SA SB nA cA nB cB u x w i)
theorem gR : (List.range 10).map (sR F B SA SB nA cA nB cB u x w i rd).heap.get = (List.range 10).map (hp B SA SB nA cA nB cB u x (nx F SA w i)) := by kernel_rfl
theorem mR : maskD (sR F B SA SB nA cA nB cB u x w i rd).tmps (R B SA SB nA cA nB cB u x (nx F SA w i) (i + 1)).tmps = (R B SA SB nA cA nB cB u x (nx F SA w i) (i + 1)).tmps.map (ren id) := by kernel_rfl
theorem rR : ((sR F B SA SB nA cA nB cB u x w i rd).roB, (sR F B SA SB nA cA nB cB u x w i rd).ro, (sR F B SA SB nA cA nB cB u x w i rd).defers) = (2, [], []) := by kernel_rfl
theorem dR : (sR F B SA SB nA cA nB cB u x w i rd).hid = fun _ => false := by kernel_rfl
noncomputable def runX : Option (Exit × St) := (mk Try.prog (KL F) 200).code 4 rd body { R B SA SB nA cA nB cB u x w i with obl := True, orc := [some false] }
theorem eX : (runX F B SA SB nA cA nB cB u x w i rd).map (fun r => (r.1, r.2.obl)) = some (.exit 0, pD nA i) := by kernel_rfl
noncomputable def sX : St := ((runX F B SA SB nA cA nB cB u x w i rd).map (·.2)).getD (R B SA SB nA cA nB cB u x w i)
theorem gX : (List.range 10).map (sX F B SA SB nA cA nB cB u x w i rd).heap.get = (List.range 10).map (hp B SA SB nA cA nB cB u x w) := by kernel_rfl
theorem mX : maskD (sX F B SA SB nA cA nB cB u x w i rd).tmps (R B SA SB nA cA nB cB u x w i).tmps = (R B SA SB nA cA nB cB u x w i).tmps.map (ren id) := by kernel_rfl
theorem rX : ((sX F B SA SB nA cA nB cB u x w i rd).roB, (sX F B SA SB nA cA nB cB u x w i rd).ro, (sX F B SA SB nA cA nB cB u x w i rd).defers) = (2, [], []) := by kernel_rfl
theorem dX : (sX F B SA SB nA cA nB cB u x w i rd).hid = fun _ => false := by kernel_rfl
end
theorem obB {s2 : St} {B : Bd} {SA SB : Scr} {nA cA nB cB : Nat} {u x w : Clk} : ∀ {j : Nat} {o : Ob}, hp B SA SB nA cA nB cB u x w j = some o → ObV s2 id o o
  | 0, _, h => by cases h; exact ObV.rows fun _ => rfl
  | 1, _, h => by cases h
  | 2, _, h => by cases h; exact ObV.lit rfl rfl
  | 3, _, h => by cases h; exact ObV.lit rfl rfl
  | 4, _, h => by cases h; exact ObV.lit rfl rfl
  | 5, _, h => by cases h; exact ObV.lit rfl rfl
  | 6, _, h => by cases h; exact ObV.lit rfl rfl
  | 7, _, h => by cases h; exact ObV.lit rfl rfl
  | 8, _, h => by cases h; exact ObV.lit rfl rfl
  | 9, _, h => by cases h; exact ObV.lit rfl rfl
  | n + 10, _, h => by cases h
theorem viewL {B : Bd} {SA SB : Scr} {nA cA nB cB : Nat} {u x w : Clk} {i : Nat} {s0 s1 : St} (h0n : s0.next = 10) (hg : (List.range 10).map s1.heap.get = (List.range 10).map (hp B SA SB nA cA nB cB u x w))
    (hm : maskD s1.tmps (R B SA SB nA cA nB cB u x w i).tmps = (R B SA SB nA cA nB cB u x w i).tmps.map (ren id)) (hr : (s1.roB, s1.ro, s1.defers) = (2, [], [])) (hd : s1.hid = fun _ => false) : View s0 s1 (R B SA SB nA cA nB cB u x w i) id := by
  simp only [Prod.mk.injEq] at hr
  obtain ⟨hr1, hr2, hr3⟩ := hr
  have get : ∀ j, j < 10 → s1.heap.get j = hp B SA SB nA cA nB cB u x w j := fun j hj => by
    have := congrArg (fun l => l[j]?) hg
    simpa [List.getElem?_map, List.getElem?_range hj] using this
  refine View.shed (f := hp B SA SB nA cA nB cB u x w) (n := 10) rfl (by decide) rfl hr1.symm hr2.symm hd.symm hm (by kernel_rfl) (by rw [hr3]; rfl) rfl (fun b hb => ?_) (Nat.le_of_eq h0n) (fun b hb h => (get b (by omega)).symm) (fun b o hb h => ⟨o, by rw [get b hb, h], obB h⟩)
  simp [okB, R, mkL, hb]
theorem stepE (B : Bd) (SA SB : Scr) (nA cA nB cB : Nat) (u x w : Clk) (i : Nat) (rd : Option Nat) (w0 : Clk) (t0 : List Value) (hp : pC (doesF Zr) SA nA w i) : Step Try.prog rd (mkL B SA SB nA cA nB cB u x w0 t0) body (E B SA SB nA cA nB cB u x w i) (fun e s => e = .normal ∧ s = R B SA SB nA cA nB cB u x (nx (doesF Zr) SA w i) (i + 1)) :=
  Step.exec pg KL_ok (eE (doesF Zr) B SA SB nA cA nB cB u x w i rd) hp (Nat.le_refl _) (viewL rfl (gE ..) (mE ..) (rE ..) (dE ..))
theorem stepR (B : Bd) (SA SB : Scr) (nA cA nB cB : Nat) (u x w : Clk) (i : Nat) (rd : Option Nat) (w0 : Clk) (t0 : List Value) (hp : pC (doesF Zr) SA nA w i) : Step Try.prog rd (mkL B SA SB nA cA nB cB u x w0 t0) body (R B SA SB nA cA nB cB u x w i) (fun e s => e = .normal ∧ s = R B SA SB nA cA nB cB u x (nx (doesF Zr) SA w i) (i + 1)) :=
  Step.exec pg KL_ok (eR (doesF Zr) B SA SB nA cA nB cB u x w i rd) hp (Nat.le_refl _) (viewL rfl (gR ..) (mR ..) (rR ..) (dR ..))
theorem stepX (B : Bd) (SA SB : Scr) (nA cA nB cB : Nat) (u x w : Clk) (i : Nat) (rd : Option Nat) (w0 : Clk) (t0 : List Value) (hp : pD nA i) : Step Try.prog rd (mkL B SA SB nA cA nB cB u x w0 t0) body (R B SA SB nA cA nB cB u x w i) (fun e s => e = .exit 0 ∧ s = R B SA SB nA cA nB cB u x w i) :=
  Step.exec pg KL_ok (eX (doesF Zr) B SA SB nA cA nB cB u x w i rd) hp (Nat.le_refl _) (viewL rfl (gX ..) (mX ..) (rX ..) (dX ..))
theorem loopOk (B : Bd) (SA SB : Scr) (nA cA nB cB : Nat) (u x w : Clk) (hn : 0 < nA) (h40 : nA ≤ 40) (hI : Of B w) (wf : ∀ i, i < nA → wfT (SA.n i)) (rd : Option Nat) : CodeOk Try.prog rd (.loop body) (E B SA SB nA cA nB cB u x w 0) (.exit 0) (R B SA SB nA cA nB cB u x (foldC SA w nA) nA) := by
  refine CodeOk.of_step (Step.loop (fun k y => (k = nA + 1 ∧ y = E B SA SB nA cA nB cB u x w 0) ∨ ∃ i : Nat, 1 ≤ i ∧ i ≤ nA ∧ k = nA - i ∧ y = R B SA SB nA cA nB cB u x (foldC SA w i) i) ?_ (nA + 1) _ (.inl ⟨rfl, rfl⟩))
  rintro k y (⟨rfl, rfl⟩ | ⟨i, h1, h2, rfl, rfl⟩)
  · refine (stepE B SA SB nA cA nB cB u x w 0 rd w _ (pC_ok SA B nA 0 w hn h40 hI (wf 0 hn))).mono ?_
    rintro e s ⟨rfl, rfl⟩
    refine .inl ⟨rfl, nA - 1, by omega, .inr ⟨1, by omega, by omega, rfl, ?_⟩⟩
    rw [nx_eq]; rfl
  · by_cases e : i = nA
    · subst e
      refine (stepX B SA SB i cA nB cB u x (foldC SA w i) i rd w _ (pD_ok i)).mono ?_
      rintro e s ⟨rfl, rfl⟩
      exact .inr ⟨(by intro x; cases x), rfl, rfl⟩
    · have hlt : i < nA := by omega
      refine (stepR B SA SB nA cA nB cB u x (foldC SA w i) i rd w _ (pC_ok SA B nA i _ hlt h40 (fold_of SA B w hI i) (wf i hlt))).mono ?_
      rintro e s ⟨rfl, rfl⟩
      refine .inl ⟨rfl, nA - (i + 1), by omega, .inr ⟨i + 1, by omega, by omega, rfl, ?_⟩⟩
      rw [nx_eq]; rfl
noncomputable def J : List Nat := [16, 17, 18, 19, 20, 21, 22, 23, 28, 29, 30, 31]
end L0rz

end rn
end Go.Proofs.Ythgiflgofdmamab
