/- Read off the code by the clean reading. -/
import Derived.Test.YthgiflgofdmamabClnXa
import Derived.Test.YthgiflgofdmamabRows
import Derived.WalkKit
import Derived.ProofKit
import Derived.Below
import Derived.IntWalk
set_option linter.unusedVariables false
set_option linter.unusedSimpArgs false
set_option linter.deprecated false
set_option maxRecDepth 100000
namespace Go.Proofs.Ythgiflgofdmamab
open Go.ChangeShapes Go.WideShapes Go.ChangeAt Go.RowKit Go.Cln
namespace rn
set_option linter.unusedVariables false
set_option linter.unusedSimpArgs false
namespace L2rr
noncomputable def hp (B : Bd) (SA SB : Scr) (nA cA nB cB : Nat) (u x w : Clk) : Nat → Option Ob := fun i => match i with
  | 0 => some (.cells (.rows nA 3 SA.row) 0)
  | 1 => some (.cells (.rows nB 3 SB.row) 0)
  | 2 => some (.cells (.lit B.row) 23)
  | 3 => some (.cells (.lit B.row) 23)
  | 4 => some (.cells (.lit [.int .i64 1, .int .i64 B.le, .int .i64 B.fi, .int .i64 B.mo, .int .i64 65536]) 3)
  | 5 => some (.cells (.lit [.int .i64 1, .int .i64 B.tr, .int .i64 100]) 3)
  | 6 => some (.cells (.lit (Clk.cells w)) 53)
  | 7 => some (.cells (.lit B.row) 23)
  | 8 => some (.cells (.lit (Clk.doc (newC B))) 32)
  | 9 => some (.cells (.lit (Clk.doc w)) 32)
  | 10 => some (.cells (.lit (Clk.cells x)) 53)
  | 11 => some (.cells (.lit (Clk.cells u)) 53)
  | 12 => some (.cells (.lit (Clk.doc x)) 32)
  | 13 => some (.cells (.lit (Clk.doc u)) 32)
  | 14 => some (.cells (.lit (Clk.doc x)) 32)
  | _ => none
noncomputable def mkL (B : Bd) (SA SB : Scr) (nA cA nB cB : Nat) (u x w : Clk) (t : List Value) : St := ⟨t, [], Tr.rebuild (hp B SA SB nA cA nB cB u x w) 15, 15, 2, [], fun _ => false, True, []⟩
noncomputable def tE (B : Bd) (SA SB : Scr) (nA cA nB cB : Nat) (u x w : Clk) (i : Nat) : List Value := [.agg B.row.toArray, .slice (some ⟨0, 0, none⟩) nA cA, .slice (some ⟨1, 0, none⟩) nB cB, P0 2 0] ++ U 2 ++ [.bool false, P0 6 0, .int .i64 0, P0 9 0, .int .i64 (nA : Int), P0 10 0, P0 11 0, P0 12 0, .int .i64 (nB : Int), .int .i64 (i : Int)] ++ J 8 ++ U 1 ++ [.tuple #[P0 6 0, .int .i64 0], .agg B.row.toArray, .tuple #[P0 6 0, .int .i64 0]] ++ J 4 ++ U 1 ++ [.agg B.row.toArray, .agg (newC B).doc.toArray] ++ J 6 ++ [.tuple #[.agg J11, junk]] ++ J 1 ++ [.agg J11] ++ J 3 ++ [.agg #[junk, junk, junk], .tuple #[.agg J11, junk], .agg J11] ++ J 5 ++ [.agg u.doc.toArray] ++ J 6 ++ [.tuple #[.agg J11, junk]] ++ J 1 ++ [.agg J11] ++ J 3 ++ [.agg #[junk, junk, junk], .tuple #[.agg J11, junk], .agg J11] ++ J 7 ++ [.agg u.doc.toArray] ++ J 5 ++ [.agg x.doc.toArray] ++ J 3 ++ U 22
noncomputable def tR (B : Bd) (SA SB : Scr) (nA cA nB cB : Nat) (u x w : Clk) (i : Nat) : List Value := [.agg B.row.toArray, .slice (some ⟨0, 0, none⟩) nA cA, .slice (some ⟨1, 0, none⟩) nB cB, P0 2 0] ++ U 2 ++ [.bool false, P0 6 0, .int .i64 0, P0 9 0, .int .i64 (nA : Int), P0 10 0, P0 11 0, P0 12 0, .int .i64 (nB : Int), .int .i64 (i : Int)] ++ J 8 ++ U 1 ++ [.tuple #[P0 6 0, .int .i64 0], .agg B.row.toArray, .tuple #[P0 6 0, .int .i64 0]] ++ J 4 ++ U 1 ++ [.agg B.row.toArray, .agg (newC B).doc.toArray] ++ J 6 ++ [.tuple #[.agg J11, junk]] ++ J 1 ++ [.agg J11] ++ J 3 ++ [.agg #[junk, junk, junk], .tuple #[.agg J11, junk], .agg J11] ++ J 5 ++ [.agg u.doc.toArray] ++ J 6 ++ [.tuple #[.agg J11, junk]] ++ J 1 ++ [.agg J11] ++ J 3 ++ [.agg #[junk, junk, junk], .tuple #[.agg J11, junk], .agg J11] ++ J 7 ++ [.agg u.doc.toArray] ++ J 5 ++ [.agg x.doc.toArray] ++ J 9 ++ [.tuple #[.agg J11, junk]] ++ J 1 ++ [.agg J11] ++ J 3 ++ [.agg #[junk, junk, junk], .tuple #[.agg J11, junk], .agg J11] ++ J 1 ++ U 6
noncomputable def E (B : Bd) (SA SB : Scr) (nA cA nB cB : Nat) (u x w : Clk) (i : Nat) : St := mkL B SA SB nA cA nB cB u x w (tE B SA SB nA cA nB cB u x w i)
noncomputable def R (B : Bd) (SA SB : Scr) (nA cA nB cB : Nat) (u x w : Clk) (i : Nat) : St := mkL B SA SB nA cA nB cB u x w (tR B SA SB nA cA nB cB u x w i)
noncomputable def body : Code := loopB Try.prog 4 2
section
variable (F : StepT) (B : Bd) (SA SB : Scr) (nA cA nB cB : Nat) (u x w : Clk) (i : Nat) (rd : Option Nat)
noncomputable def runE : Option (Exit × St) := (mk Try.prog (KL F) 200).code 4 rd body { E B SA SB nA cA nB cB u x w i with obl := True, orc := oC }
theorem eE : (runE F B SA SB nA cA nB cB u x w i rd).map (fun r => (r.1, r.2.obl)) = some (.normal, pC F SB nB w i) := by kernel_rfl
noncomputable def sE : St := ((runE F B SA SB nA cA nB cB u x w i rd).map (·.2)).getD (E B SA SB nA cA nB cB u x w i)
theorem gE : (List.range 15).map (sE F B SA SB nA cA nB cB u x w i rd).heap.get = (List.range 15).map (hp B SA SB nA cA nB cB u x (nx F SB w i)) := by kernel_rfl
theorem mE : maskD (sE F B SA SB nA cA nB cB u x w i rd).tmps (R B SA SB nA cA nB cB u x (nx F SB w i) (i + 1)).tmps = (R B SA SB nA cA nB cB u x (nx F SB w i) (i + 1)).tmps.map (ren id) := by kernel_rfl
theorem rE : ((sE F B SA SB nA cA nB cB u x w i rd).roB, (sE F B SA SB nA cA nB cB u x w i rd).ro, (sE F B SA SB nA cA nB cB u x w i rd).defers) = (2, [], []) := by kernel_rfl
theorem dE : (sE F B SA SB nA cA nB cB u x w i rd).hid = fun _ => false := by kernel_rfl
noncomputable def runR : Option (Exit × St) := (mk Try.prog (KL F) 200).code 4 rd body { R B SA SB nA cA nB cB u x w i with obl := True, orc := oC }
theorem eR : (runR F B SA SB nA cA nB cB u x w i rd).map (fun r => (r.1, r.2.obl)) = some (.normal, pC F SB nB w i) := by kernel_rfl
noncomputable def sR : St := ((runR F B SA SB nA cA nB cB u x w i rd).map (·.2)).getD (R B SA SB nA cA nB cB u x w i)
theorem gR : (List.range 15).map (sR F B SA SB nA cA nB cB u x w i rd).heap.get = (List.range 15).map (hp B SA SB nA cA nB cB u x (nx F SB w i)) := by kernel_rfl
theorem mR : maskD (sR F B SA SB nA cA nB cB u x w i rd).tmps (R B SA SB nA cA nB cB u x (nx F SB w i) (i + 1)).tmps = (R B SA SB nA cA nB cB u x (nx F SB w i) (i + 1)).tmps.map (ren id) := by kernel_rfl
theorem rR : ((sR F B SA SB nA cA nB cB u x w i rd).roB, (sR F B SA SB nA cA nB cB u x w i rd).ro, (sR F B SA SB nA cA nB cB u x w i rd).defers) = (2, [], []) := by kernel_rfl
theorem dR : (sR F B SA SB nA cA nB cB u x w i rd).hid = fun _ => false := by kernel_rfl
noncomputable def runX : Option (Exit × St) := (mk Try.prog (KL F) 200).code 4 rd body { R B SA SB nA cA nB cB u x w i with obl := True, orc := [some false] }
theorem eX : (runX F B SA SB nA cA nB cB u x w i rd).map (fun r => (r.1, r.2.obl)) = some (.exit 4, pD nB i) := by kernel_rfl
noncomputable def sX : St := ((runX F B SA SB nA cA nB cB u x w i rd).map (·.2)).getD (R B SA SB nA cA nB cB u x w i)
theorem gX : (List.range 15).map (sX F B SA SB nA cA nB cB u x w i rd).heap.get = (List.range 15).map (hp B SA SB nA cA nB cB u x w) := by kernel_rfl
theorem mX : maskD (sX F B SA SB nA cA nB cB u x w i rd).tmps (R B SA SB nA cA nB cB u x w i).tmps = (R B SA SB nA cA nB cB u x w i).tmps.map (ren id) := by kernel_rfl
theorem rX : ((sX F B SA SB nA cA nB cB u x w i rd).roB, (sX F B SA SB nA cA nB cB u x w i rd).ro, (sX F B SA SB nA cA nB cB u x w i rd).defers) = (2, [], []) := by kernel_rfl
theorem dX : (sX F B SA SB nA cA nB cB u x w i rd).hid = fun _ => false := by kernel_rfl
end
theorem obB {s2 : St} {B : Bd} {SA SB : Scr} {nA cA nB cB : Nat} {u x w : Clk} : ∀ {j : Nat} {o : Ob}, hp B SA SB nA cA nB cB u x w j = some o → ObV s2 id o o
  | 0, _, h => by cases h; exact ObV.rows fun _ => rfl
  | 1, _, h => by cases h; exact ObV.rows fun _ => rfl
  | 2, _, h => by cases h; exact ObV.lit rfl rfl
  | 3, _, h => by cases h; exact ObV.lit rfl rfl
  | 4, _, h => by cases h; exact ObV.lit rfl rfl
  | 5, _, h => by cases h; exact ObV.lit rfl rfl
  | 6, _, h => by cases h; exact ObV.lit rfl rfl
  | 7, _, h => by cases h; exact ObV.lit rfl rfl
  | 8, _, h => by cases h; exact ObV.lit rfl rfl
  | 9, _, h => by cases h; exact ObV.lit rfl rfl
  | 10, _, h => by cases h; exact ObV.lit rfl rfl
  | 11, _, h => by cases h; exact ObV.lit rfl rfl
  | 12, _, h => by cases h; exact ObV.lit rfl rfl
  | 13, _, h => by cases h; exact ObV.lit rfl rfl
  | 14, _, h => by cases h; exact ObV.lit rfl rfl
  | n + 15, _, h => by cases h
theorem viewL {B : Bd} {SA SB : Scr} {nA cA nB cB : Nat} {u x w : Clk} {i : Nat} {s0 s1 : St} (h0n : s0.next = 15) (hg : (List.range 15).map s1.heap.get = (List.range 15).map (hp B SA SB nA cA nB cB u x w))
    (hm : maskD s1.tmps (R B SA SB nA cA nB cB u x w i).tmps = (R B SA SB nA cA nB cB u x w i).tmps.map (ren id)) (hr : (s1.roB, s1.ro, s1.defers) = (2, [], [])) (hd : s1.hid = fun _ => false) : View s0 s1 (R B SA SB nA cA nB cB u x w i) id := by
  simp only [Prod.mk.injEq] at hr
  obtain ⟨hr1, hr2, hr3⟩ := hr
  have get : ∀ j, j < 15 → s1.heap.get j = hp B SA SB nA cA nB cB u x w j := fun j hj => by
    have := congrArg (fun l => l[j]?) hg
    simpa [List.getElem?_map, List.getElem?_range hj] using this
  refine View.shed (f := hp B SA SB nA cA nB cB u x w) (n := 15) rfl (by decide) rfl hr1.symm hr2.symm hd.symm hm (by kernel_rfl) (by rw [hr3]; rfl) rfl (fun b hb => ?_) (Nat.le_of_eq h0n) (fun b hb h => (get b (by omega)).symm) (fun b o hb h => ⟨o, by rw [get b hb, h], obB h⟩)
  simp [okB, R, mkL, hb]
theorem stepE (B : Bd) (SA SB : Scr) (nA cA nB cB : Nat) (u x w : Clk) (i : Nat) (rd : Option Nat) (w0 : Clk) (t0 : List Value) (hp : pC (doesF Zr) SB nB w i) : Step Try.prog rd (mkL B SA SB nA cA nB cB u x w0 t0) body (E B SA SB nA cA nB cB u x w i) (fun e s => e = .normal ∧ s = R B SA SB nA cA nB cB u x (nx (doesF Zr) SB w i) (i + 1)) :=
  Step.exec pg KL_ok (eE (doesF Zr) B SA SB nA cA nB cB u x w i rd) hp (Nat.le_refl _) (viewL rfl (gE ..) (mE ..) (rE ..) (dE ..))
theorem stepR (B : Bd) (SA SB : Scr) (nA cA nB cB : Nat) (u x w : Clk) (i : Nat) (rd : Option Nat) (w0 : Clk) (t0 : List Value) (hp : pC (doesF Zr) SB nB w i) : Step Try.prog rd (mkL B SA SB nA cA nB cB u x w0 t0) body (R B SA SB nA cA nB cB u x w i) (fun e s => e = .normal ∧ s = R B SA SB nA cA nB cB u x (nx (doesF Zr) SB w i) (i + 1)) :=
  Step.exec pg KL_ok (eR (doesF Zr) B SA SB nA cA nB cB u x w i rd) hp (Nat.le_refl _) (viewL rfl (gR ..) (mR ..) (rR ..) (dR ..))
theorem stepX (B : Bd) (SA SB : Scr) (nA cA nB cB : Nat) (u x w : Clk) (i : Nat) (rd : Option Nat) (w0 : Clk) (t0 : List Value) (hp : pD nB i) : Step Try.prog rd (mkL B SA SB nA cA nB cB u x w0 t0) body (R B SA SB nA cA nB cB u x w i) (fun e s => e = .exit 4 ∧ s = R B SA SB nA cA nB cB u x w i) :=
  Step.exec pg KL_ok (eX (doesF Zr) B SA SB nA cA nB cB u x w i rd) hp (Nat.le_refl _) (viewL rfl (gX ..) (mX ..) (rX ..) (dX ..))
theorem loopOk (B : Bd) (SA SB : Scr) (nA cA nB cB : Nat) (u x w : Clk) (hn : 0 < nB) (h40 : nB ≤ 40) (hI : Of B w) (wf : ∀ i, i < nB → wfT (SB.n i)) (rd : Option Nat) : CodeOk Try.prog rd (.loop body) (E B SA SB nA cA nB cB u x w 0) (.exit 4) (R B SA SB nA cA nB cB u x (foldC SB w nB) nB) := by
  refine CodeOk.of_step (Step.loop (fun k y => (k = nB + 1 ∧ y = E B SA SB nA cA nB cB u x w 0) ∨ ∃ i : Nat, 1 ≤ i ∧ i ≤ nB ∧ k = nB - i ∧ y = R B SA SB nA cA nB cB u x (foldC SB w i) i) ?_ (nB + 1) _ (.inl ⟨rfl, rfl⟩))
  rintro k y (⟨rfl, rfl⟩ | ⟨i, h1, h2, rfl, rfl⟩)
  · refine (stepE B SA SB nA cA nB cB u x w 0 rd w _ (pC_ok SB B nB 0 w hn h40 hI (wf 0 hn))).mono ?_
    rintro e s ⟨rfl, rfl⟩
    refine .inl ⟨rfl, nB - 1, by omega, .inr ⟨1, by omega, by omega, rfl, ?_⟩⟩
    rw [nx_eq]; rfl
  · by_cases e : i = nB
    · subst e
      refine (stepX B SA SB nA cA i cB u x (foldC SB w i) i rd w _ (pD_ok i)).mono ?_
      rintro e s ⟨rfl, rfl⟩
      exact .inr ⟨(by intro x; cases x), rfl, rfl⟩
    · have hlt : i < nB := by omega
      refine (stepR B SA SB nA cA nB cB u x (foldC SB w i) i rd w _ (pC_ok SB B nB i _ hlt h40 (fold_of SB B w hI i) (wf i hlt))).mono ?_
      rintro e s ⟨rfl, rfl⟩
      refine .inl ⟨rfl, nB - (i + 1), by omega, .inr ⟨i + 1, by omega, by omega, rfl, ?_⟩⟩
      rw [nx_eq]; rfl
noncomputable def J : List Nat := [16, 17, 18, 19, 20, 21, 22, 23, 28, 29, 30, 31, 35, 36, 37, 38, 39, 40, 42, 44, 45, 46, 50, 51, 52, 53, 54, 56, 57, 58, 59, 60, 61, 63, 65, 66, 67, 71, 72, 73, 74, 75, 76, 77, 79, 80, 81, 82, 83, 85, 86, 87]
end L2rr
namespace L2nr
noncomputable def hp (B : Bd) (SA SB : Scr) (nA cA nB cB : Nat) (u x w : Clk) : Nat → Option Ob := fun i => match i with
  | 0 => none
  | 1 => some (.cells (.rows nB 3 SB.row) 0)
  | 2 => some (.cells (.lit B.row) 23)
  | 3 => some (.cells (.lit B.row) 23)
  | 4 => some (.cells (.lit [.int .i64 1, .int .i64 B.le, .int .i64 B.fi, .int .i64 B.mo, .int .i64 65536]) 3)
  | 5 => some (.cells (.lit [.int .i64 1, .int .i64 B.tr, .int .i64 100]) 3)
  | 6 => some (.cells (.lit (Clk.cells w)) 53)
  | 7 => some (.cells (.lit B.row) 23)
  | 8 => some (.cells (.lit (Clk.doc (newC B))) 32)
  | 9 => some (.cells (.lit (Clk.doc w)) 32)
  | 10 => some (.cells (.lit (Clk.cells x)) 53)
  | 11 => some (.cells (.lit (Clk.cells u)) 53)
  | 12 => some (.cells (.lit (Clk.doc x)) 32)
  | 13 => some (.cells (.lit (Clk.doc u)) 32)
  | 14 => some (.cells (.lit (Clk.doc x)) 32)
  | _ => none
noncomputable def mkL (B : Bd) (SA SB : Scr) (nA cA nB cB : Nat) (u x w : Clk) (t : List Value) : St := ⟨t, [], Tr.rebuild (hp B SA SB nA cA nB cB u x w) 15, 15, 2, [], fun _ => false, True, []⟩
noncomputable def tE (B : Bd) (SA SB : Scr) (nA cA nB cB : Nat) (u x w : Clk) (i : Nat) : List Value := [.agg B.row.toArray, .slice none 0 0, .slice (some ⟨1, 0, none⟩) nB cB, P0 2 0] ++ U 2 ++ [.bool false, P0 6 0, .int .i64 0, P0 9 0, .int .i64 0, P0 10 0, P0 11 0, P0 12 0, .int .i64 (nB : Int), .int .i64 (i : Int)] ++ J 8 ++ U 1 ++ [.tuple #[P0 6 0, .int .i64 0], .agg B.row.toArray, .tuple #[P0 6 0, .int .i64 0]] ++ J 4 ++ U 1 ++ [.agg B.row.toArray, .agg (newC B).doc.toArray] ++ J 4 ++ U 12 ++ J 4 ++ [.agg u.doc.toArray] ++ J 6 ++ [.tuple #[.agg J11, junk]] ++ J 1 ++ [.agg J11] ++ J 3 ++ [.agg #[junk, junk, junk], .tuple #[.agg J11, junk], .agg J11] ++ J 7 ++ [.agg u.doc.toArray] ++ J 5 ++ [.agg x.doc.toArray] ++ J 3 ++ U 22
noncomputable def tR (B : Bd) (SA SB : Scr) (nA cA nB cB : Nat) (u x w : Clk) (i : Nat) : List Value := [.agg B.row.toArray, .slice none 0 0, .slice (some ⟨1, 0, none⟩) nB cB, P0 2 0] ++ U 2 ++ [.bool false, P0 6 0, .int .i64 0, P0 9 0, .int .i64 0, P0 10 0, P0 11 0, P0 12 0, .int .i64 (nB : Int), .int .i64 (i : Int)] ++ J 8 ++ U 1 ++ [.tuple #[P0 6 0, .int .i64 0], .agg B.row.toArray, .tuple #[P0 6 0, .int .i64 0]] ++ J 4 ++ U 1 ++ [.agg B.row.toArray, .agg (newC B).doc.toArray] ++ J 4 ++ U 12 ++ J 4 ++ [.agg u.doc.toArray] ++ J 6 ++ [.tuple #[.agg J11, junk]] ++ J 1 ++ [.agg J11] ++ J 3 ++ [.agg #[junk, junk, junk], .tuple #[.agg J11, junk], .agg J11] ++ J 7 ++ [.agg u.doc.toArray] ++ J 5 ++ [.agg x.doc.toArray] ++ J 9 ++ [.tuple #[.agg J11, junk]] ++ J 1 ++ [.agg J11] ++ J 3 ++ [.agg #[junk, junk, junk], .tuple #[.agg J11, junk], .agg J11] ++ J 1 ++ U 6
noncomputable def E (B : Bd) (SA SB : Scr) (nA cA nB cB : Nat) (u x w : Clk) (i : Nat) : St := mkL B SA SB nA cA nB cB u x w (tE B SA SB nA cA nB cB u x w i)
noncomputable def R (B : Bd) (SA SB : Scr) (nA cA nB cB : Nat) (u x w : Clk) (i : Nat) : St := mkL B SA SB nA cA nB cB u x w (tR B SA SB nA cA nB cB u x w i)
noncomputable def body : Code := loopB Try.prog 4 2
section
variable (F : StepT) (B : Bd) (SA SB : Scr) (nA cA nB cB : Nat) (u x w : Clk) (i : Nat) (rd : Option Nat)
noncomputable def runE : Option (Exit × St) := (mk Try.prog (KL F) 200).code 4 rd body { E B SA SB nA cA nB cB u x w i with obl := True, orc := oC }
theorem eE : (runE F B SA SB nA cA nB cB u x w i rd).map (fun r => (r.1, r.2.obl)) = some (.normal, pC F SB nB w i) := by kernel_rfl
noncomputable def sE : St := ((runE F B SA SB nA cA nB cB u x w i rd).map (·.2)).getD (E B SA SB nA cA nB cB u x w i)
theorem gE : (List.range 15).map (sE F B SA SB nA cA nB cB u x w i rd).heap.get = (List.range 15).map (hp B SA SB nA cA nB cB u x (nx F SB w i)) := by kernel_rfl
theorem mE : maskD (sE F B SA SB nA cA nB cB u x w i rd).tmps (R B SA SB nA cA nB cB u x (nx F SB w i) (i + 1)).tmps = (R B SA SB nA cA nB cB u x (nx F SB w i) (i + 1)).tmps.map (ren id) := by kernel_rfl
theorem rE : ((sE F B SA SB nA cA nB cB u x w i rd).roB, (sE F B SA SB nA cA nB cB u x w i rd).ro, (sE F B SA SB nA cA nB cB u x w i rd).defers) = (2, [], []) := by kernel_rfl
theorem dE : (sE F B SA SB nA cA nB cB u x w i rd).hid = fun _ => false := by kernel_rfl
noncomputable def runR : Option (Exit × St) := (mk Try.prog (KL F) 200).code 4 rd body { R B SA SB nA cA nB cB u x w i with obl := True, orc := oC }
theorem eR : (runR F B SA SB nA cA nB cB u x w i rd).map (fun r => (r.1, r.2.obl)) = some (.normal, pC F SB nB w i) := by kernel_rfl
noncomputable def sR : St := ((runR F B SA SB nA cA nB cB u x w i rd).map (·.2)).getD (R B SA SB nA cA nB cB u x w i)
theorem gR : (List.range 15).map (sR F B SA SB nA cA nB cB u x w i rd).heap.get = (List.range 15).map (hp B SA SB nA cA nB cB u x (nx F SB w i)) := by kernel_rfl
theorem mR : maskD (sR F B SA SB nA cA nB cB u x w i rd).tmps (R B SA SB nA cA nB cB u x (nx F SB w i) (i + 1)).tmps = (R B SA SB nA cA nB cB u x (nx F SB w i) (i + 1)).tmps.map (ren id) := by kernel_rfl
theorem rR : ((sR F B SA SB nA cA nB cB u x w i rd).roB, (sR F B SA SB nA cA nB cB u x w i rd).ro, (sR F B SA SB nA cA nB cB u x w i rd).defers) = (2, [], []) := by kernel_rfl
theorem dR : (sR F B SA SB nA cA nB cB u x w i rd).hid = fun _ => false := by kernel_rfl
noncomputable def runX : Option (Exit × St) := (mk Try.prog (KL F) 200).code 4 rd body { R B SA SB nA cA nB cB u x w i with obl := True, orc := [some false] }
theorem eX : (runX F B SA SB nA cA nB cB u x w i rd).map (fun r => (r.1, r.2.obl)) = some (.exit 4, pD nB i) := by kernel_rfl
noncomputable def sX : St := ((runX F B SA SB nA cA nB cB u x w i rd).map (·.2)).getD (R B SA SB nA cA nB cB u x w i)
theorem gX : (List.range 15).map (sX F B SA SB nA cA nB cB u x w i rd).heap.get = (List.range 15).map (hp B SA SB nA cA nB cB u x w) := by kernel_rfl
theorem mX : maskD (sX F B SA SB nA cA nB cB u x w i rd).tmps (R B SA SB nA cA nB cB u x w i).tmps = (R B SA SB nA cA nB cB u x w i).tmps.map (ren id) := by kernel_rfl
theorem rX : ((sX F B SA SB nA cA nB cB u x w i rd).roB, (sX F B SA SB nA cA nB cB u x w i rd).ro, (sX F B SA SB nA cA nB cB u x w i rd).defers) = (2, [], []) := by kernel_rfl
theorem dX : (sX F B SA SB nA cA nB cB u x w i rd).hid = fun _ => false := by kernel_rfl
end
theorem obB {s2 : St} {B : Bd} {SA SB : Scr} {nA cA nB cB : Nat} {u x w : Clk} : ∀ {j : Nat} {o : Ob}, hp B SA SB nA cA nB cB u x w j = some o → ObV s2 id o o
  | 0, _, h => by cases h
  | 1, _, h => by cases h; exact ObV.rows fun _ => rfl
  | 2, _, h => by cases h; exact ObV.lit rfl rfl
  | 3, _, h => by cases h; exact ObV.lit rfl rfl
  | 4, _, h => by cases h; exact ObV.lit rfl rfl
  | 5, _, h => by cases h; exact ObV.lit rfl rfl
  | 6, _, h => by cases h; exact ObV.lit rfl rfl
  | 7, _, h => by cases h; exact ObV.lit rfl rfl
  | 8, _, h => by cases h; exact ObV.lit rfl rfl
  | 9, _, h => by cases h; exact ObV.lit rfl rfl
  | 10, _, h => by cases h; exact ObV.lit rfl rfl
  | 11, _, h => by cases h; exact ObV.lit rfl rfl
  | 12, _, h => by cases h; exact ObV.lit rfl rfl
  | 13, _, h => by cases h; exact ObV.lit rfl rfl
  | 14, _, h => by cases h; exact ObV.lit rfl rfl
  | n + 15, _, h => by cases h
theorem viewL {B : Bd} {SA SB : Scr} {nA cA nB cB : Nat} {u x w : Clk} {i : Nat} {s0 s1 : St} (h0n : s0.next = 15) (hg : (List.range 15).map s1.heap.get = (List.range 15).map (hp B SA SB nA cA nB cB u x w))
    (hm : maskD s1.tmps (R B SA SB nA cA nB cB u x w i).tmps = (R B SA SB nA cA nB cB u x w i).tmps.map (ren id)) (hr : (s1.roB, s1.ro, s1.defers) = (2, [], [])) (hd : s1.hid = fun _ => false) : View s0 s1 (R B SA SB nA cA nB cB u x w i) id := by
  simp only [Prod.mk.injEq] at hr
  obtain ⟨hr1, hr2, hr3⟩ := hr
  have get : ∀ j, j < 15 → s1.heap.get j = hp B SA SB nA cA nB cB u x w j := fun j hj => by
    have := congrArg (fun l => l[j]?) hg
    simpa [List.getElem?_map, List.getElem?_range hj] using this
  refine View.shed (f := hp B SA SB nA cA nB cB u x w) (n := 15) rfl (by decide) rfl hr1.symm hr2.symm hd.symm hm (by kernel_rfl) (by rw [hr3]; rfl) rfl (fun b hb => ?_) (Nat.le_of_eq h0n) (fun b hb h => (get b (by omega)).symm) (fun b o hb h => ⟨o, by rw [get b hb, h], obB h⟩)
  simp [okB, R, mkL, hb]
theorem stepE (B : Bd) (SA SB : Scr) (nA cA nB cB : Nat) (u x w : Clk) (i : Nat) (rd : Option Nat) (w0 : Clk) (t0 : List Value) (hp : pC (doesF Zr) SB nB w i) : Step Try.prog rd (mkL B SA SB nA cA nB cB u x w0 t0) body (E B SA SB nA cA nB cB u x w i) (fun e s => e = .normal ∧ s = R B SA SB nA cA nB cB u x (nx (doesF Zr) SB w i) (i + 1)) :=
  Step.exec pg KL_ok (eE (doesF Zr) B SA SB nA cA nB cB u x w i rd) hp (Nat.le_refl _) (viewL rfl (gE ..) (mE ..) (rE ..) (dE ..))
theorem stepR (B : Bd) (SA SB : Scr) (nA cA nB cB : Nat) (u x w : Clk) (i : Nat) (rd : Option Nat) (w0 : Clk) (t0 : List Value) (hp : pC (doesF Zr) SB nB w i) : Step Try.prog rd (mkL B SA SB nA cA nB cB u x w0 t0) body (R B SA SB nA cA nB cB u x w i) (fun e s => e = .normal ∧ s = R B SA SB nA cA nB cB u x (nx (doesF Zr) SB w i) (i + 1)) :=
  Step.exec pg KL_ok (eR (doesF Zr) B SA SB nA cA nB cB u x w i rd) hp (Nat.le_refl _) (viewL rfl (gR ..) (mR ..) (rR ..) (dR ..))
theorem stepX (B : Bd) (SA SB : Scr) (nA cA nB cB : Nat) (u x w : Clk) (i : Nat) (rd : Option Nat) (w0 : Clk) (t0 : List Value) (hp : pD nB i) : Step Try.prog rd (mkL B SA SB nA cA nB cB u x w0 t0) body (R B SA SB nA cA nB cB u x w i) (fun e s => e = .exit 4 ∧ s = R B SA SB nA cA nB cB u x w i) :=
  Step.exec pg KL_ok (eX (doesF Zr) B SA SB nA cA nB cB u x w i rd) hp (Nat.le_refl _) (viewL rfl (gX ..) (mX ..) (rX ..) (dX ..))
theorem loopOk (B : Bd) (SA SB : Scr) (nA cA nB cB : Nat) (u x w : Clk) (hn : 0 < nB) (h40 : nB ≤ 40) (hI : Of B w) (wf : ∀ i, i < nB → wfT (SB.n i)) (rd : Option Nat) : CodeOk Try.prog rd (.loop body) (E B SA SB nA cA nB cB u x w 0) (.exit 4) (R B SA SB nA cA nB cB u x (foldC SB w nB) nB) := by
  refine CodeOk.of_step (Step.loop (fun k y => (k = nB + 1 ∧ y = E B SA SB nA cA nB cB u x w 0) ∨ ∃ i : Nat, 1 ≤ i ∧ i ≤ nB ∧ k = nB - i ∧ y = R B SA SB nA cA nB cB u x (foldC SB w i) i) ?_ (nB + 1) _ (.inl ⟨rfl, rfl⟩))
  rintro k y (⟨rfl, rfl⟩ | ⟨i, h1, h2, rfl, rfl⟩)
  · refine (stepE B SA SB nA cA nB cB u x w 0 rd w _ (pC_ok SB B nB 0 w hn h40 hI (wf 0 hn))).mono ?_
    rintro e s ⟨rfl, rfl⟩
    refine .inl ⟨rfl, nB - 1, by omega, .inr ⟨1, by omega, by omega, rfl, ?_⟩⟩
    rw [nx_eq]; rfl
  · by_cases e : i = nB
    · subst e
      refine (stepX B SA SB nA cA i cB u x (foldC SB w i) i rd w _ (pD_ok i)).mono ?_
      rintro e s ⟨rfl, rfl⟩
      exact .inr ⟨(by intro x; cases x), rfl, rfl⟩
    · have hlt : i < nB := by omega
      refine (stepR B SA SB nA cA nB cB u x (foldC SB w i) i rd w _ (pC_ok SB B nB i _ hlt h40 (fold_of SB B w hI i) (wf i hlt))).mono ?_
      rintro e s ⟨rfl, rfl⟩
      refine .inl ⟨rfl, nB - (i + 1), by omega, .inr ⟨i + 1, by omega, by omega, rfl, ?_⟩⟩
      rw [nx_eq]; rfl
noncomputable def J : List Nat := [16, 17, 18, 19, 20, 21, 22, 23, 28, 29, 30, 31, 35, 36, 37, 38, 51, 52, 53, 54, 56, 57, 58, 59, 60, 61, 63, 65, 66, 67, 71, 72, 73, 74, 75, 76, 77, 79, 80, 81, 82, 83, 85, 86, 87]
end L2nr
namespace L2zr
noncomputable def hp (B : Bd) (SA SB : Scr) (nA cA nB cB : Nat) (u x w : Clk) : Nat → Option Ob := fun i => match i with
  | 0 => none
  | 1 => some (.cells (.rows nB 3 SB.row) 0)
  | 2 => some (.cells (.lit B.row) 23)
  | 3 => some (.cells (.lit B.row) 23)
  | 4 => some (.cells (.lit [.int .i64 1, .int .i64 B.le, .int .i64 B.fi, .int .i64 B.mo, .int .i64 65536]) 3)
  | 5 => some (.cells (.lit [.int .i64 1, .int .i64 B.tr, .int .i64 100]) 3)
  | 6 => some (.cells (.lit (Clk.cells w)) 53)
  | 7 => some (.cells (.lit B.row) 23)
  | 8 => some (.cells (.lit (Clk.doc (newC B))) 32)
  | 9 => some (.cells (.lit (Clk.doc w)) 32)
  | 10 => some (.cells (.lit (Clk.cells x)) 53)
  | 11 => some (.cells (.lit (Clk.cells u)) 53)
  | 12 => some (.cells (.lit (Clk.doc x)) 32)
  | 13 => some (.cells (.lit (Clk.doc u)) 32)
  | 14 => some (.cells (.lit (Clk.doc x)) 32)
  | _ => none
noncomputable def mkL (B : Bd) (SA SB : Scr) (nA cA nB cB : Nat) (u x w : Clk) (t : List Value) : St := ⟨t, [], Tr.rebuild (hp B SA SB nA cA nB cB u x w) 15, 15, 2, [], fun _ => false, True, []⟩
noncomputable def tE (B : Bd) (SA SB : Scr) (nA cA nB cB : Nat) (u x w : Clk) (i : Nat) : List Value := [.agg B.row.toArray, .slice (some ⟨0, 0, none⟩) 0 cA, .slice (some ⟨1, 0, none⟩) nB cB, P0 2 0] ++ U 2 ++ [.bool false, P0 6 0, .int .i64 0, P0 9 0, .int .i64 0, P0 10 0, P0 11 0, P0 12 0, .int .i64 (nB : Int), .int .i64 (i : Int)] ++ J 8 ++ U 1 ++ [.tuple #[P0 6 0, .int .i64 0], .agg B.row.toArray, .tuple #[P0 6 0, .int .i64 0]] ++ J 4 ++ U 1 ++ [.agg B.row.toArray, .agg (newC B).doc.toArray] ++ J 4 ++ U 12 ++ J 4 ++ [.agg u.doc.toArray] ++ J 6 ++ [.tuple #[.agg J11, junk]] ++ J 1 ++ [.agg J11] ++ J 3 ++ [.agg #[junk, junk, junk], .tuple #[.agg J11, junk], .agg J11] ++ J 7 ++ [.agg u.doc.toArray] ++ J 5 ++ [.agg x.doc.toArray] ++ J 3 ++ U 22
noncomputable def tR (B : Bd) (SA SB : Scr) (nA cA nB cB : Nat) (u x w : Clk) (i : Nat) : List Value := [.agg B.row.toArray, .slice (some ⟨0, 0, none⟩) 0 cA, .slice (some ⟨1, 0, none⟩) nB cB, P0 2 0] ++ U 2 ++ [.bool false, P0 6 0, .int .i64 0, P0 9 0, .int .i64 0, P0 10 0, P0 11 0, P0 12 0, .int .i64 (nB : Int), .int .i64 (i : Int)] ++ J 8 ++ U 1 ++ [.tuple #[P0 6 0, .int .i64 0], .agg B.row.toArray, .tuple #[P0 6 0, .int .i64 0]] ++ J 4 ++ U 1 ++ [.agg B.row.toArray, .agg (newC B).doc.toArray] ++ J 4 ++ U 12 ++ J 4 ++ [.agg u.doc.toArray] ++ J 6 ++ [.tuple #[.agg J11, junk]] ++ J 1 ++ [.agg J11] ++ J 3 ++ [.agg #[junk, junk, junk], .tuple #[.agg J11, junk], .agg J11] ++ J 7 ++ [.agg u.doc.toArray] ++ J 5 ++ [.agg x.doc.toArray] ++ J 9 ++ [.tuple #[.agg J11, junk]] ++ J 1 ++ [.agg J11] ++ J 3 ++ [.agg #[junk, junk, junk], .tuple #[.agg J11, junk], .agg J11] ++ J 1 ++ U 6
noncomputable def E (B : Bd) (SA SB : Scr) (nA cA nB cB : Nat) (u x w : Clk) (i : Nat) : St := mkL B SA SB nA cA nB cB u x w (tE B SA SB nA cA nB cB u x w i)
noncomputable def R (B : Bd) (SA SB : Scr) (nA cA nB cB : Nat) (u x w : Clk) (i : Nat) : St := mkL B SA SB nA cA nB cB u x w (tR B SA SB nA cA nB cB u x w i)
noncomputable def body : Code := loopB Try.prog 4 2
section
variable (F : StepT) (B : Bd) (SA SB : Scr) (nA cA nB cB : Nat) (u x w : Clk) (i : Nat) (rd : Option Nat)
noncomputable def runE : Option (Exit × St) := (mk Try.prog (KL F) 200).code 4 rd body { E B SA SB nA cA nB cB u x w i with obl := True, orc := oC }
theorem eE : (runE F B SA SB nA cA nB cB u x w i rd).map (fun r => (r.1, r.2.obl)) = some (.normal, pC F SB nB w i) := by kernel_rfl
noncomputable def sE : St := ((runE F B SA SB nA cA nB cB u x w i rd).map (·.2)).getD (E B SA SB nA cA nB cB u x w i)
theorem gE : (List.range 15).map (sE F B SA SB nA cA nB cB u x w i rd).heap.get = (List.range 15).map (hp B SA SB nA cA nB cB u x (nx F SB w i)) := by kernel_rfl
theorem mE : maskD (sE F B SA SB nA cA nB cB u x w i rd).tmps (R B SA SB nA cA nB cB u x (nx F SB w i) (i + 1)).tmps = (R B SA SB nA cA nB cB u x (nx F SB w i) (i + 1)).tmps.map (ren id) := by kernel_rfl
theorem rE : ((sE F B SA SB nA cA nB cB u x w i rd).roB, (sE F B SA SB nA cA nB cB u x w i rd).ro, (sE F B SA SB nA cA nB cB u x w i rd).defers) = (2, [], []) := by kernel_rfl
theorem dE : (sE F B SA SB nA cA nB cB u x w i rd).hid = fun _ => false := by kernel_rfl
noncomputable def runR : Option (Exit × St) := (mk Try.prog (KL F) 200).code 4 rd body { R B SA SB nA cA nB cB u x w i with obl := True, orc := oC }
theorem eR : (runR F B SA SB nA cA nB cB u x w i rd).map (fun r => (r.1, r.2.obl)) = some (.normal, pC F SB nB w i) := by kernel_rfl
noncomputable def sR : St := ((runR F B SA SB nA cA nB cB u x w i rd).map (·.2)).getD (R B SA SB nA cA nB cB u x w i)
theorem gR : (List.range 15).map (sR F B SA SB nA cA nB cB u x w i rd).heap.get = (List.range 15).map (hp B SA SB nA cA nB cB u x (nx F SB w i)) := by kernel_rfl
theorem mR : maskD (sR F B SA SB nA cA nB cB u x w i rd).tmps (R B SA SB nA cA nB cB u x (nx F SB w i) (i + 1)).tmps = (R B SA SB nA cA nB cB u x (nx F SB w i) (i + 1)).tmps.map (ren id) := by kernel_rfl
theorem rR : ((sR F B SA SB nA cA nB cB u x w i rd).roB, (sR F B SA SB nA cA nB cB u x w i rd).ro, (sR F B SA SB nA cA nB cB u x w i rd).defers) = (2, [], []) := by kernel_rfl
theorem dR : (sR F B SA SB nA cA nB cB u x w i rd).hid = fun _ => false := by kernel_rfl
noncomputable def runX : Option (Exit × St) := (mk Try.prog (KL F) 200).code 4 rd body { R B SA SB nA cA nB cB u x w i with obl := True, orc := [some false] }
theorem eX : (runX F B SA SB nA cA nB cB u x w i rd).map (fun r => (r.1, r.2.obl)) = some (.exit 4, pD nB i) := by kernel_rfl
noncomputable def sX : St := ((runX F B SA SB nA cA nB cB u x w i rd).map (·.2)).getD (R B SA SB nA cA nB cB u x w i)
theorem gX : (List.range 15).map (sX F B SA SB nA cA nB cB u x w i rd).heap.get = (List.range 15).map (hp B SA SB nA cA nB cB u x w) := by kernel_rfl
theorem mX : maskD (sX F B SA SB nA cA nB cB u x w i rd).tmps (R B SA SB nA cA nB cB u x w i).tmps = (R B SA SB nA cA nB cB u x w i).tmps.map (ren id) := by kernel_rfl
theorem rX : ((sX F B SA SB nA cA nB cB u x w i rd).roB, (sX F B SA SB nA cA nB cB u x w i rd).ro, (sX F B SA SB nA cA nB cB u x w i rd).defers) = (2, [], []) := by kernel_rfl
theorem dX : (sX F B SA SB nA cA nB cB u x w i rd).hid = fun _ => false := by kernel_rfl
end
theorem obB {s2 : St} {B : Bd} {SA SB : Scr} {nA cA nB cB : Nat} {u x w : Clk} : ∀ {j : Nat} {o : Ob}, hp B SA SB nA cA nB cB u x w j = some o → ObV s2 id o o
  | 0, _, h => by cases h
  | 1, _, h => by cases h; exact ObV.rows fun _ => rfl
  | 2, _, h => by cases h; exact ObV.lit rfl rfl
  | 3, _, h => by cases h; exact ObV.lit rfl rfl
  | 4, _, h => by cases h; exact ObV.lit rfl rfl
  | 5, _, h => by cases h; exact ObV.lit rfl rfl
  | 6, _, h => by cases h; exact ObV.lit rfl rfl
  | 7, _, h => by cases h; exact ObV.lit rfl rfl
  | 8, _, h => by cases h; exact ObV.lit rfl rfl
  | 9, _, h => by cases h; exact ObV.lit rfl rfl
  | 10, _, h => by cases h; exact ObV.lit rfl rfl
  | 11, _, h => by cases h; exact ObV.lit rfl rfl
  | 12, _, h => by cases h; exact ObV.lit rfl rfl
  | 13, _, h => by cases h; exact ObV.lit rfl rfl
  | 14, _, h => by cases h; exact ObV.lit rfl rfl
  | n + 15, _, h => by cases h
theorem viewL {B : Bd} {SA SB : Scr} {nA cA nB cB : Nat} {u x w : Clk} {i : Nat} {s0 s1 : St} (h0n : s0.next = 15) (hg : (List.range 15).map s1.heap.get = (List.range 15).map (hp B SA SB nA cA nB cB u x w))
    (hm : maskD s1.tmps (R B SA SB nA cA nB cB u x w i).tmps = (R B SA SB nA cA nB cB u x w i).tmps.map (ren id)) (hr : (s1.roB, s1.ro, s1.defers) = (2, [], [])) (hd : s1.hid = fun _ => false) : View s0 s1 (R B SA SB nA cA nB cB u x w i) id := by
  simp only [Prod.mk.injEq] at hr
  obtain ⟨hr1, hr2, hr3⟩ := hr
  have get : ∀ j, j < 15 → s1.heap.get j = hp B SA SB nA cA nB cB u x w j := fun j hj => by
    have := congrArg (fun l => l[j]?) hg
    simpa [List.getElem?_map, List.getElem?_range hj] using this
  refine View.shed (f := hp B SA SB nA cA nB cB u x w) (n := 15) rfl (by decide) rfl hr1.symm hr2.symm hd.symm hm (by kernel_rfl) (by rw [hr3]; rfl) rfl (fun b hb => ?_) (Nat.le_of_eq h0n) (fun b hb h => (get b (by omega)).symm) (fun b o hb h => ⟨o, by rw [get b hb, h], obB h⟩)
  simp [okB, R, mkL, hb]
theorem stepE (B : Bd) (SA SB : Scr) (nA cA nB cB : Nat) (u x w : Clk) (i : Nat) (rd : Option Nat) (w0 : Clk) (t0 : List Value) (hp : pC (doesF Zr) SB nB w i) : Step Try.prog rd (mkL B SA SB nA cA nB cB u x w0 t0) body (E B SA SB nA cA nB cB u x w i) (fun e s => e = .normal ∧ s = R B SA SB nA cA nB cB u x (nx (doesF Zr) SB w i) (i + 1)) :=
  Step.exec pg KL_ok (eE (doesF Zr) B SA SB nA cA nB cB u x w i rd) hp (Nat.le_refl _) (viewL rfl (gE ..) (mE ..) (rE ..) (dE ..))
theorem stepR (B : Bd) (SA SB : Scr) (nA cA nB cB : Nat) (u x w : Clk) (i : Nat) (rd : Option Nat) (w0 : Clk) (t0 : List Value) (hp : pC (doesF Zr) SB nB w i) : Step Try.prog rd (mkL B SA SB nA cA nB cB u x w0 t0) body (R B SA SB nA cA nB cB u x w i) (fun e s => e = .normal ∧ s = R B SA SB nA cA nB cB u x (nx (doesF Zr) SB w i) (i + 1)) :=
  Step.exec pg KL_ok (eR (doesF Zr) B SA SB nA cA nB cB u x w i rd) hp (Nat.le_refl _) (viewL rfl (gR ..) (mR ..) (rR ..) (dR ..))
theorem stepX (B : Bd) (SA SB : Scr) (nA cA nB cB : Nat) (u x w : Clk) (i : Nat) (rd : Option Nat) (w0 : Clk) (t0 : List Value) (hp : pD nB i) : Step Try.prog rd (mkL B SA SB nA cA nB cB u x w0 t0) body (R B SA SB nA cA nB cB u x w i) (fun e s => e = .exit 4 ∧ s = R B SA SB nA cA nB cB u x w i) :=
  Step.exec pg KL_ok (eX (doesF Zr) B SA SB nA cA nB cB u x w i rd) hp (Nat.le_refl _) (viewL rfl (gX ..) (mX ..) (rX ..) (dX ..))
theorem loopOk (B : Bd) (SA SB : Scr) (nA cA nB cB : Nat) (u x w : Clk) (hn : 0 < nB) (h40 : nB ≤ 40) (hI : Of B w) (wf : ∀ i, i < nB → wfT (SB.n i)) (rd : Option Nat) : CodeOk Try.prog rd (.loop body) (E B SA SB nA cA nB cB u x w 0) (.exit 4) (R B SA SB nA cA nB cB u x (foldC SB w nB) nB) := by
  refine CodeOk.of_step (Step.loop (fun k y => (k = nB + 1 ∧ y = E B SA SB nA cA nB cB u x w 0) ∨ ∃ i : Nat, 1 ≤ i ∧ i ≤ nB ∧ k = nB - i ∧ y = R B SA SB nA cA nB cB u x (foldC SB w i) i) ?_ (nB + 1) _ (.inl ⟨rfl, rfl⟩))
  rintro k y (⟨rfl, rfl⟩ | ⟨i, h1, h2, rfl, rfl⟩)
  · refine (stepE B SA SB nA cA nB cB u x w 0 rd w _ (pC_ok SB B nB 0 w hn h40 hI (wf 0 hn))).mono ?_
    rintro e s ⟨rfl, rfl⟩
    refine .inl ⟨rfl, nB - 1, by omega, .inr ⟨1, by omega, by omega, rfl, ?_⟩⟩
    rw [nx_eq]; rfl
  · by_cases e : i = nB
    · subst e
      refine (stepX B SA SB nA cA i cB u x (foldC SB w i) i rd w _ (pD_ok i)).mono ?_
      rintro e s ⟨rfl, rfl⟩
      exact .inr ⟨(by intro x; cases x), rfl, rfl⟩
    · have hlt : i < nB := by omega
      refine (stepR B SA SB nA cA nB cB u x (foldC SB w i) i rd w _ (pC_ok SB B nB i _ hlt h40 (fold_of SB B w hI i) (wf i hlt))).mono ?_
      rintro e s ⟨rfl, rfl⟩
      refine .inl ⟨rfl, nB - (i + 1), by omega, .inr ⟨i + 1, by omega, by omega, rfl, ?_⟩⟩
      rw [nx_eq]; rfl
noncomputable def J : List Nat := [16, 17, 18, 19, 20, 21, 22, 23, 28, 29, 30, 31, 35, 36, 37, 38, 51, 52, 53, 54, 56, 57, 58, 59, 60, 61, 63, 65, 66, 67, 71, 72, 73, 74, 75, 76, 77, 79, 80, 81, 82, 83, 85, 86, 87]
end L2zr

end rn
end Go.Proofs.Ythgiflgofdmamab
