/- Read off the code by the clean reading. -/
import Derived.Test.YthgiflgofdmamaaClnXa
import Derived.Test.YthgiflgofdmamaaRows
import Derived.WalkKit
import Derived.ProofKit
import Derived.Below
import Derived.IntWalk
set_option linter.unusedVariables false
set_option linter.unusedSimpArgs false
set_option linter.deprecated false
set_option maxRecDepth 100000
namespace Go.Proofs.Ythgiflgofdmamaa
open Go.ChangeShapes Go.WideShapes Go.ChangeAt Go.RowKit Go.Cln
namespace wn
set_option linter.unusedVariables false
set_option linter.unusedSimpArgs false
namespace L2rr
noncomputable def hp (SA SB : Scr) (nA cA nB cB : Nat) (u x w : W4) : Nat → Option Ob := fun i => match i with
  | 0 => some (.cells (.rows nA 4 SA.row) 0)
  | 1 => some (.cells (.rows nB 4 SB.row) 0)
  | 2 => some (.cells (.lit (W4.cells w)) 46)
  | 3 => some (.cells (.lit (W4.row w)) 27)
  | 4 => some (.cells (.lit (W4.cells x)) 46)
  | 5 => some (.cells (.lit (W4.cells u)) 46)
  | 6 => some (.cells (.lit (W4.row x)) 27)
  | _ => none
noncomputable def mkL (SA SB : Scr) (nA cA nB cB : Nat) (u x w : W4) (t : List Value) : St := ⟨t, [], Tr.rebuild (hp SA SB nA cA nB cB u x w) 7, 7, 2, [], fun _ => false, True, []⟩
noncomputable def tE (SA SB : Scr) (nA cA nB cB : Nat) (u x w : W4) (i : Nat) : List Value := [.slice (some ⟨0, 0, none⟩) nA cA, .slice (some ⟨1, 0, none⟩) nB cB] ++ U 2 ++ [.bool false, P0 2 0, P0 3 0, .int .i64 (nA : Int), P0 4 0, P0 5 0, P0 6 0, .int .i64 (nB : Int), .int .i64 (i : Int)] ++ J 8 ++ U 1 ++ J 1 ++ [.agg #[.int .i64 0, .int .i64 0, .int .i64 0, .int .i64 0]] ++ J 6 ++ [.tuple #[.agg #[junk, junk, junk, junk], junk]] ++ J 1 ++ [.agg #[junk, junk, junk, junk]] ++ J 3 ++ [.agg #[junk, junk, junk, junk], .tuple #[.agg #[junk, junk, junk, junk], junk], .agg #[junk, junk, junk, junk]] ++ J 5 ++ [.agg u.row.toArray] ++ J 6 ++ [.tuple #[.agg #[junk, junk, junk, junk], junk]] ++ J 1 ++ [.agg #[junk, junk, junk, junk]] ++ J 3 ++ [.agg #[junk, junk, junk, junk], .tuple #[.agg #[junk, junk, junk, junk], junk], .agg #[junk, junk, junk, junk]] ++ J 7 ++ [.agg u.row.toArray, .agg u.row.toArray] ++ J 4 ++ [.agg x.row.toArray, .agg x.row.toArray] ++ J 6 ++ [.agg u.row.toArray, .agg x.row.toArray] ++ J 3 ++ U 22
noncomputable def tR (SA SB : Scr) (nA cA nB cB : Nat) (u x w : W4) (i : Nat) : List Value := [.slice (some ⟨0, 0, none⟩) nA cA, .slice (some ⟨1, 0, none⟩) nB cB] ++ U 2 ++ [.bool false, P0 2 0, P0 3 0, .int .i64 (nA : Int), P0 4 0, P0 5 0, P0 6 0, .int .i64 (nB : Int), .int .i64 (i : Int)] ++ J 8 ++ U 1 ++ J 1 ++ [.agg #[.int .i64 0, .int .i64 0, .int .i64 0, .int .i64 0]] ++ J 6 ++ [.tuple #[.agg #[junk, junk, junk, junk], junk]] ++ J 1 ++ [.agg #[junk, junk, junk, junk]] ++ J 3 ++ [.agg #[junk, junk, junk, junk], .tuple #[.agg #[junk, junk, junk, junk], junk], .agg #[junk, junk, junk, junk]] ++ J 5 ++ [.agg u.row.toArray] ++ J 6 ++ [.tuple #[.agg #[junk, junk, junk, junk], junk]] ++ J 1 ++ [.agg #[junk, junk, junk, junk]] ++ J 3 ++ [.agg #[junk, junk, junk, junk], .tuple #[.agg #[junk, junk, junk, junk], junk], .agg #[junk, junk, junk, junk]] ++ J 7 ++ [.agg u.row.toArray, .agg u.row.toArray] ++ J 4 ++ [.agg x.row.toArray, .agg x.row.toArray] ++ J 6 ++ [.agg u.row.toArray, .agg x.row.toArray] ++ J 9 ++ [.tuple #[.agg #[junk, junk, junk, junk], junk]] ++ J 1 ++ [.agg #[junk, junk, junk, junk]] ++ J 3 ++ [.agg #[junk, junk, junk, junk], .tuple #[.agg #[junk, junk, junk, junk], junk], .agg #[junk, junk, junk, junk]] ++ J 1 ++ U 6
noncomputable def E (SA SB : Scr) (nA cA nB cB : Nat) (u x w : W4) (i : Nat) : St := mkL SA SB nA cA nB cB u x w (tE SA SB nA cA nB cB u x w i)
noncomputable def R (SA SB : Scr) (nA cA nB cB : Nat) (u x w : W4) (i : Nat) : St := mkL SA SB nA cA nB cB u x w (tR SA SB nA cA nB cB u x w i)
noncomputable def body : Code := loopB Try.prog 4 2
section
variable (F : StepT) (rm : RoomT) (zb : ZeroT) (SA SB : Scr) (nA cA nB cB : Nat) (u x w : W4) (i : Nat) (rd : Option Nat)
noncomputable def runE : Option (Exit × St) := (mk Try.prog (KL F rm zb) 200).code 4 rd body { E SA SB nA cA nB cB u x w i with obl := True, orc := oC }
theorem eE : (runE F rm zb SA SB nA cA nB cB u x w i rd).map (fun r => (r.1, r.2.obl)) = some (.normal, pC F SB nB w i) := by kernel_rfl
noncomputable def sE : St := ((runE F rm zb SA SB nA cA nB cB u x w i rd).map (·.2)).getD (E SA SB nA cA nB cB u x w i)
theorem gE : (List.range 7).map (sE F rm zb SA SB nA cA nB cB u x w i rd).heap.get = (List.range 7).map (hp SA SB nA cA nB cB u x (nx F SB w i)) := by kernel_rfl
theorem mE : maskD (sE F rm zb SA SB nA cA nB cB u x w i rd).tmps (R SA SB nA cA nB cB u x (nx F SB w i) (i + 1)).tmps = (R SA SB nA cA nB cB u x (nx F SB w i) (i + 1)).tmps.map (ren id) := by kernel_rfl
theorem rE : ((sE F rm zb SA SB nA cA nB cB u x w i rd).roB, (sE F rm zb SA SB nA cA nB cB u x w i rd).ro, (sE F rm zb SA SB nA cA nB cB u x w i rd).defers) = (2, [], []) := by kernel_rfl
theorem dE : (sE F rm zb SA SB nA cA nB cB u x w i rd).hid = fun _ => false := by kernel_rfl
noncomputable def runR : Option (Exit × St) := (mk Try.prog (KL F rm zb) 200).code 4 rd body { R SA SB nA cA nB cB u x w i with obl := True, orc := oC }
theorem eR : (runR F rm zb SA SB nA cA nB cB u x w i rd).map (fun r => (r.1, r.2.obl)) = some (.normal, pC F SB nB w i) := by kernel_rfl
noncomputable def sR : St := ((runR F rm zb SA SB nA cA nB cB u x w i rd).map (·.2)).getD (R SA SB nA cA nB cB u x w i)
theorem gR : (List.range 7).map (sR F rm zb SA SB nA cA nB cB u x w i rd).heap.get = (List.range 7).map (hp SA SB nA cA nB cB u x (nx F SB w i)) := by kernel_rfl
theorem mR : maskD (sR F rm zb SA SB nA cA nB cB u x w i rd).tmps (R SA SB nA cA nB cB u x (nx F SB w i) (i + 1)).tmps = (R SA SB nA cA nB cB u x (nx F SB w i) (i + 1)).tmps.map (ren id) := by kernel_rfl
theorem rR : ((sR F rm zb SA SB nA cA nB cB u x w i rd).roB, (sR F rm zb SA SB nA cA nB cB u x w i rd).ro, (sR F rm zb SA SB nA cA nB cB u x w i rd).defers) = (2, [], []) := by kernel_rfl
theorem dR : (sR F rm zb SA SB nA cA nB cB u x w i rd).hid = fun _ => false := by kernel_rfl
noncomputable def runX : Option (Exit × St) := (mk Try.prog (KL F rm zb) 200).code 4 rd body { R SA SB nA cA nB cB u x w i with obl := True, orc := [some false] }
theorem eX : (runX F rm zb SA SB nA cA nB cB u x w i rd).map (fun r => (r.1, r.2.obl)) = some (.exit 4, pD nB i) := by kernel_rfl
noncomputable def sX : St := ((runX F rm zb SA SB nA cA nB cB u x w i rd).map (·.2)).getD (R SA SB nA cA nB cB u x w i)
theorem gX : (List.range 7).map (sX F rm zb SA SB nA cA nB cB u x w i rd).heap.get = (List.range 7).map (hp SA SB nA cA nB cB u x w) := by kernel_rfl
theorem mX : maskD (sX F rm zb SA SB nA cA nB cB u x w i rd).tmps (R SA SB nA cA nB cB u x w i).tmps = (R SA SB nA cA nB cB u x w i).tmps.map (ren id) := by kernel_rfl
theorem rX : ((sX F rm zb SA SB nA cA nB cB u x w i rd).roB, (sX F rm zb SA SB nA cA nB cB u x w i rd).ro, (sX F rm zb SA SB nA cA nB cB u x w i rd).defers) = (2, [], []) := by kernel_rfl
theorem dX : (sX F rm zb SA SB nA cA nB cB u x w i rd).hid = fun _ => false := by kernel_rfl
end
theorem obB {s2 : St} {SA SB : Scr} {nA cA nB cB : Nat} {u x w : W4} : ∀ {j : Nat} {o : Ob}, hp SA SB nA cA nB cB u x w j = some o → ObV s2 id o o
  | 0, _, h => by cases h; exact ObV.rows fun _ => rfl
  | 1, _, h => by cases h; exact ObV.rows fun _ => rfl
  | 2, _, h => by cases h; exact ObV.lit rfl rfl
  | 3, _, h => by cases h; exact ObV.lit rfl rfl
  | 4, _, h => by cases h; exact ObV.lit rfl rfl
  | 5, _, h => by cases h; exact ObV.lit rfl rfl
  | 6, _, h => by cases h; exact ObV.lit rfl rfl
  | n + 7, _, h => by cases h
theorem viewL {SA SB : Scr} {nA cA nB cB : Nat} {u x w : W4} {i : Nat} {s0 s1 : St} (h0n : s0.next = 7) (h0r : s0.roB = 2) (h0g : s0.heap.get 0 = hp SA SB nA cA nB cB u x w 0) (h0h : s0.heap.get 1 = hp SA SB nA cA nB cB u x w 1) (hg : (List.range 7).map s1.heap.get = (List.range 7).map (hp SA SB nA cA nB cB u x w))
    (hm : maskD s1.tmps (R SA SB nA cA nB cB u x w i).tmps = (R SA SB nA cA nB cB u x w i).tmps.map (ren id)) (hr : (s1.roB, s1.ro, s1.defers) = (2, [], [])) (hd : s1.hid = fun _ => false) : View s0 s1 (R SA SB nA cA nB cB u x w i) id := by
  simp only [Prod.mk.injEq] at hr
  obtain ⟨hr1, hr2, hr3⟩ := hr
  have get : ∀ j, j < 7 → s1.heap.get j = hp SA SB nA cA nB cB u x w j := fun j hj => by
    have := congrArg (fun l => l[j]?) hg
    simpa [List.getElem?_map, List.getElem?_range hj] using this
  refine View.shed (f := hp SA SB nA cA nB cB u x w) (n := 7) rfl (by decide) rfl hr1.symm hr2.symm hd.symm hm (by kernel_rfl) (by rw [hr3]; rfl) rfl (fun b hb => ?_) (Nat.le_of_eq h0n) (fun b hb h => (get b (by omega)).symm) (fun b o hb h => ⟨o, by rw [get b hb, h], obB h⟩)
  simp [okB, R, mkL, hb]
theorem stepE (SA SB : Scr) (nA cA nB cB : Nat) (u x w : W4) (i : Nat) (rd : Option Nat) (w0 : W4) (t0 : List Value) (hp : pC stepW SB nB w i) : Step Try.prog rd (mkL SA SB nA cA nB cB u x w0 t0) body (E SA SB nA cA nB cB u x w i) (fun e s => e = .normal ∧ s = R SA SB nA cA nB cB u x (nx stepW SB w i) (i + 1)) :=
  Step.exec pg KL_ok (eE stepW roomI zeroB SA SB nA cA nB cB u x w i rd) hp (Nat.le_refl _) (viewL rfl rfl rfl rfl (gE ..) (mE ..) (rE ..) (dE ..))
theorem stepR (SA SB : Scr) (nA cA nB cB : Nat) (u x w : W4) (i : Nat) (rd : Option Nat) (w0 : W4) (t0 : List Value) (hp : pC stepW SB nB w i) : Step Try.prog rd (mkL SA SB nA cA nB cB u x w0 t0) body (R SA SB nA cA nB cB u x w i) (fun e s => e = .normal ∧ s = R SA SB nA cA nB cB u x (nx stepW SB w i) (i + 1)) :=
  Step.exec pg KL_ok (eR stepW roomI zeroB SA SB nA cA nB cB u x w i rd) hp (Nat.le_refl _) (viewL rfl rfl rfl rfl (gR ..) (mR ..) (rR ..) (dR ..))
theorem stepX (SA SB : Scr) (nA cA nB cB : Nat) (u x w : W4) (i : Nat) (rd : Option Nat) (w0 : W4) (t0 : List Value) (hp : pD nB i) : Step Try.prog rd (mkL SA SB nA cA nB cB u x w0 t0) body (R SA SB nA cA nB cB u x w i) (fun e s => e = .exit 4 ∧ s = R SA SB nA cA nB cB u x w i) :=
  Step.exec pg KL_ok (eX stepW roomI zeroB SA SB nA cA nB cB u x w i rd) hp (Nat.le_refl _) (viewL rfl rfl rfl rfl (gX ..) (mX ..) (rX ..) (dX ..))
theorem loopOk (SA SB : Scr) (nA cA nB cB : Nat) (u x w : W4) (hn : 0 < nB) (h40 : nB ≤ 40) (B : Int) (hI : Inv w B) (hB : 0 ≤ B) (hB2 : B ≤ 5000000) (wf : ∀ i, i < nB → -9223372036854775808 ≤ SB.n i ∧ SB.n i ≤ 9223372036854775807) (rd : Option Nat) : CodeOk Try.prog rd (.loop body) (E SA SB nA cA nB cB u x w 0) (.exit 4) (R SA SB nA cA nB cB u x (foldW SB w nB) nB) := by
  refine CodeOk.of_step (Step.loop (fun k y => (k = nB + 1 ∧ y = E SA SB nA cA nB cB u x w 0) ∨ ∃ i : Nat, 1 ≤ i ∧ i ≤ nB ∧ k = nB - i ∧ y = R SA SB nA cA nB cB u x (foldW SB w i) i) ?_ (nB + 1) _ (.inl ⟨rfl, rfl⟩))
  rintro k y (⟨rfl, rfl⟩ | ⟨i, h1, h2, rfl, rfl⟩)
  · refine (stepE SA SB nA cA nB cB u x w 0 rd w _ (pC_ok SB nB 0 w B hn h40 hI hB (by omega) (wf 0 hn))).mono ?_
    rintro e s ⟨rfl, rfl⟩
    refine .inl ⟨rfl, nB - 1, by omega, .inr ⟨1, by omega, by omega, rfl, ?_⟩⟩
    rw [nx_eq]; rfl
  · by_cases e : i = nB
    · subst e
      refine (stepX SA SB nA cA i cB u x (foldW SB w i) i rd w _ (pD_ok i)).mono ?_
      rintro e s ⟨rfl, rfl⟩
      exact .inr ⟨(by intro x; cases x), rfl, rfl⟩
    · have hlt : i < nB := by omega
      refine (stepR SA SB nA cA nB cB u x (foldW SB w i) i rd w _ (pC_ok SB nB i _ (B + 65536 * i) hlt h40 (fold_inv SB w B hI hB i) (by omega) (by omega) (wf i hlt))).mono ?_
      rintro e s ⟨rfl, rfl⟩
      refine .inl ⟨rfl, nB - (i + 1), by omega, .inr ⟨i + 1, by omega, by omega, rfl, ?_⟩⟩
      rw [nx_eq]; rfl
noncomputable def J : List Nat := [13, 14, 15, 16, 17, 18, 19, 20, 22, 24, 25, 26, 27, 28, 29, 31, 33, 34, 35, 39, 40, 41, 42, 43, 45, 46, 47, 48, 49, 50, 52, 54, 55, 56, 60, 61, 62, 63, 64, 65, 66, 69, 70, 71, 72, 75, 76, 77, 78, 79, 80, 83, 84, 85]
end L2rr
namespace L2nr
noncomputable def hp (SA SB : Scr) (nA cA nB cB : Nat) (u x w : W4) : Nat → Option Ob := fun i => match i with
  | 0 => none
  | 1 => some (.cells (.rows nB 4 SB.row) 0)
  | 2 => some (.cells (.lit (W4.cells w)) 46)
  | 3 => some (.cells (.lit (W4.row w)) 27)
  | 4 => some (.cells (.lit (W4.cells x)) 46)
  | 5 => some (.cells (.lit (W4.cells u)) 46)
  | 6 => some (.cells (.lit (W4.row x)) 27)
  | _ => none
noncomputable def mkL (SA SB : Scr) (nA cA nB cB : Nat) (u x w : W4) (t : List Value) : St := ⟨t, [], Tr.rebuild (hp SA SB nA cA nB cB u x w) 7, 7, 2, [], fun _ => false, True, []⟩
noncomputable def tE (SA SB : Scr) (nA cA nB cB : Nat) (u x w : W4) (i : Nat) : List Value := [.slice none 0 0, .slice (some ⟨1, 0, none⟩) nB cB] ++ U 2 ++ [.bool false, P0 2 0, P0 3 0, .int .i64 0, P0 4 0, P0 5 0, P0 6 0, .int .i64 (nB : Int), .int .i64 (i : Int)] ++ J 8 ++ U 1 ++ J 1 ++ [.agg #[.int .i64 0, .int .i64 0, .int .i64 0, .int .i64 0]] ++ J 4 ++ U 12 ++ J 4 ++ [.agg u.row.toArray] ++ J 6 ++ [.tuple #[.agg #[junk, junk, junk, junk], junk]] ++ J 1 ++ [.agg #[junk, junk, junk, junk]] ++ J 3 ++ [.agg #[junk, junk, junk, junk], .tuple #[.agg #[junk, junk, junk, junk], junk], .agg #[junk, junk, junk, junk]] ++ J 7 ++ [.agg u.row.toArray, .agg u.row.toArray] ++ J 4 ++ [.agg x.row.toArray, .agg x.row.toArray] ++ J 6 ++ [.agg u.row.toArray, .agg x.row.toArray] ++ J 3 ++ U 22
noncomputable def tR (SA SB : Scr) (nA cA nB cB : Nat) (u x w : W4) (i : Nat) : List Value := [.slice none 0 0, .slice (some ⟨1, 0, none⟩) nB cB] ++ U 2 ++ [.bool false, P0 2 0, P0 3 0, .int .i64 0, P0 4 0, P0 5 0, P0 6 0, .int .i64 (nB : Int), .int .i64 (i : Int)] ++ J 8 ++ U 1 ++ J 1 ++ [.agg #[.int .i64 0, .int .i64 0, .int .i64 0, .int .i64 0]] ++ J 4 ++ U 12 ++ J 4 ++ [.agg u.row.toArray] ++ J 6 ++ [.tuple #[.agg #[junk, junk, junk, junk], junk]] ++ J 1 ++ [.agg #[junk, junk, junk, junk]] ++ J 3 ++ [.agg #[junk, junk, junk, junk], .tuple #[.agg #[junk, junk, junk, junk], junk], .agg #[junk, junk, junk, junk]] ++ J 7 ++ [.agg u.row.toArray, .agg u.row.toArray] ++ J 4 ++ [.agg x.row.toArray, .agg x.row.toArray] ++ J 6 ++ [.agg u.row.toArray, .agg x.row.toArray] ++ J 9 ++ [.tuple #[.agg #[junk, junk, junk, junk], junk]] ++ J 1 ++ [.agg #[junk, junk, junk, junk]] ++ J 3 ++ [.agg #[junk, junk, junk, junk], .tuple #[.agg #[junk, junk, junk, junk], junk], .agg #[junk, junk, junk, junk]] ++ J 1 ++ U 6
noncomputable def E (SA SB : Scr) (nA cA nB cB : Nat) (u x w : W4) (i : Nat) : St := mkL SA SB nA cA nB cB u x w (tE SA SB nA cA nB cB u x w i)
noncomputable def R (SA SB : Scr) (nA cA nB cB : Nat) (u x w : W4) (i : Nat) : St := mkL SA SB nA cA nB cB u x w (tR SA SB nA cA nB cB u x w i)
noncomputable def body : Code := loopB Try.prog 4 2
section
variable (F : StepT) (rm : RoomT) (zb : ZeroT) (SA SB : Scr) (nA cA nB cB : Nat) (u x w : W4) (i : Nat) (rd : Option Nat)
noncomputable def runE : Option (Exit × St) := (mk Try.prog (KL F rm zb) 200).code 4 rd body { E SA SB nA cA nB cB u x w i with obl := True, orc := oC }
theorem eE : (runE F rm zb SA SB nA cA nB cB u x w i rd).map (fun r => (r.1, r.2.obl)) = some (.normal, pC F SB nB w i) := by kernel_rfl
noncomputable def sE : St := ((runE F rm zb SA SB nA cA nB cB u x w i rd).map (·.2)).getD (E SA SB nA cA nB cB u x w i)
theorem gE : (List.range 7).map (sE F rm zb SA SB nA cA nB cB u x w i rd).heap.get = (List.range 7).map (hp SA SB nA cA nB cB u x (nx F SB w i)) := by kernel_rfl
theorem mE : maskD (sE F rm zb SA SB nA cA nB cB u x w i rd).tmps (R SA SB nA cA nB cB u x (nx F SB w i) (i + 1)).tmps = (R SA SB nA cA nB cB u x (nx F SB w i) (i + 1)).tmps.map (ren id) := by kernel_rfl
theorem rE : ((sE F rm zb SA SB nA cA nB cB u x w i rd).roB, (sE F rm zb SA SB nA cA nB cB u x w i rd).ro, (sE F rm zb SA SB nA cA nB cB u x w i rd).defers) = (2, [], []) := by kernel_rfl
theorem dE : (sE F rm zb SA SB nA cA nB cB u x w i rd).hid = fun _ => false := by kernel_rfl
noncomputable def runR : Option (Exit × St) := (mk Try.prog (KL F rm zb) 200).code 4 rd body { R SA SB nA cA nB cB u x w i with obl := True, orc := oC }
theorem eR : (runR F rm zb SA SB nA cA nB cB u x w i rd).map (fun r => (r.1, r.2.obl)) = some (.normal, pC F SB nB w i) := by kernel_rfl
noncomputable def sR : St := ((runR F rm zb SA SB nA cA nB cB u x w i rd).map (·.2)).getD (R SA SB nA cA nB cB u x w i)
theorem gR : (List.range 7).map (sR F rm zb SA SB nA cA nB cB u x w i rd).heap.get = (List.range 7).map (hp SA SB nA cA nB cB u x (nx F SB w i)) := by kernel_rfl
theorem mR : maskD (sR F rm zb SA SB nA cA nB cB u x w i rd).tmps (R SA SB nA cA nB cB u x (nx F SB w i) (i + 1)).tmps = (R SA SB nA cA nB cB u x (nx F SB w i) (i + 1)).tmps.map (ren id) := by kernel_rfl
theorem rR : ((sR F rm zb SA SB nA cA nB cB u x w i rd).roB, (sR F rm zb SA SB nA cA nB cB u x w i rd).ro, (sR F rm zb SA SB nA cA nB cB u x w i rd).defers) = (2, [], []) := by kernel_rfl
theorem dR : (sR F rm zb SA SB nA cA nB cB u x w i rd).hid = fun _ => false := by kernel_rfl
noncomputable def runX : Option (Exit × St) := (mk Try.prog (KL F rm zb) 200).code 4 rd body { R SA SB nA cA nB cB u x w i with obl := True, orc := [some false] }
theorem eX : (runX F rm zb SA SB nA cA nB cB u x w i rd).map (fun r => (r.1, r.2.obl)) = some (.exit 4, pD nB i) := by kernel_rfl
noncomputable def sX : St := ((runX F rm zb SA SB nA cA nB cB u x w i rd).map (·.2)).getD (R SA SB nA cA nB cB u x w i)
theorem gX : (List.range 7).map (sX F rm zb SA SB nA cA nB cB u x w i rd).heap.get = (List.range 7).map (hp SA SB nA cA nB cB u x w) := by kernel_rfl
theorem mX : maskD (sX F rm zb SA SB nA cA nB cB u x w i rd).tmps (R SA SB nA cA nB cB u x w i).tmps = (R SA SB nA cA nB cB u x w i).tmps.map (ren id) := by kernel_rfl
theorem rX : ((sX F rm zb SA SB nA cA nB cB u x w i rd).roB, (sX F rm zb SA SB nA cA nB cB u x w i rd).ro, (sX F rm zb SA SB nA cA nB cB u x w i rd).defers) = (2, [], []) := by kernel_rfl
theorem dX : (sX F rm zb SA SB nA cA nB cB u x w i rd).hid = fun _ => false := by kernel_rfl
end
theorem obB {s2 : St} {SA SB : Scr} {nA cA nB cB : Nat} {u x w : W4} : ∀ {j : Nat} {o : Ob}, hp SA SB nA cA nB cB u x w j = some o → ObV s2 id o o
  | 0, _, h => by cases h
  | 1, _, h => by cases h; exact ObV.rows fun _ => rfl
  | 2, _, h => by cases h; exact ObV.lit rfl rfl
  | 3, _, h => by cases h; exact ObV.lit rfl rfl
  | 4, _, h => by cases h; exact ObV.lit rfl rfl
  | 5, _, h => by cases h; exact ObV.lit rfl rfl
  | 6, _, h => by cases h; exact ObV.lit rfl rfl
  | n + 7, _, h => by cases h
theorem viewL {SA SB : Scr} {nA cA nB cB : Nat} {u x w : W4} {i : Nat} {s0 s1 : St} (h0n : s0.next = 7) (h0r : s0.roB = 2) (h0g : s0.heap.get 0 = hp SA SB nA cA nB cB u x w 0) (h0h : s0.heap.get 1 = hp SA SB nA cA nB cB u x w 1) (hg : (List.range 7).map s1.heap.get = (List.range 7).map (hp SA SB nA cA nB cB u x w))
    (hm : maskD s1.tmps (R SA SB nA cA nB cB u x w i).tmps = (R SA SB nA cA nB cB u x w i).tmps.map (ren id)) (hr : (s1.roB, s1.ro, s1.defers) = (2, [], [])) (hd : s1.hid = fun _ => false) : View s0 s1 (R SA SB nA cA nB cB u x w i) id := by
  simp only [Prod.mk.injEq] at hr
  obtain ⟨hr1, hr2, hr3⟩ := hr
  have get : ∀ j, j < 7 → s1.heap.get j = hp SA SB nA cA nB cB u x w j := fun j hj => by
    have := congrArg (fun l => l[j]?) hg
    simpa [List.getElem?_map, List.getElem?_range hj] using this
  refine View.shed (f := hp SA SB nA cA nB cB u x w) (n := 7) rfl (by decide) rfl hr1.symm hr2.symm hd.symm hm (by kernel_rfl) (by rw [hr3]; rfl) rfl (fun b hb => ?_) (Nat.le_of_eq h0n) (fun b hb h => (get b (by omega)).symm) (fun b o hb h => ⟨o, by rw [get b hb, h], obB h⟩)
  simp [okB, R, mkL, hb]
theorem stepE (SA SB : Scr) (nA cA nB cB : Nat) (u x w : W4) (i : Nat) (rd : Option Nat) (w0 : W4) (t0 : List Value) (hp : pC stepW SB nB w i) : Step Try.prog rd (mkL SA SB nA cA nB cB u x w0 t0) body (E SA SB nA cA nB cB u x w i) (fun e s => e = .normal ∧ s = R SA SB nA cA nB cB u x (nx stepW SB w i) (i + 1)) :=
  Step.exec pg KL_ok (eE stepW roomI zeroB SA SB nA cA nB cB u x w i rd) hp (Nat.le_refl _) (viewL rfl rfl rfl rfl (gE ..) (mE ..) (rE ..) (dE ..))
theorem stepR (SA SB : Scr) (nA cA nB cB : Nat) (u x w : W4) (i : Nat) (rd : Option Nat) (w0 : W4) (t0 : List Value) (hp : pC stepW SB nB w i) : Step Try.prog rd (mkL SA SB nA cA nB cB u x w0 t0) body (R SA SB nA cA nB cB u x w i) (fun e s => e = .normal ∧ s = R SA SB nA cA nB cB u x (nx stepW SB w i) (i + 1)) :=
  Step.exec pg KL_ok (eR stepW roomI zeroB SA SB nA cA nB cB u x w i rd) hp (Nat.le_refl _) (viewL rfl rfl rfl rfl (gR ..) (mR ..) (rR ..) (dR ..))
theorem stepX (SA SB : Scr) (nA cA nB cB : Nat) (u x w : W4) (i : Nat) (rd : Option Nat) (w0 : W4) (t0 : List Value) (hp : pD nB i) : Step Try.prog rd (mkL SA SB nA cA nB cB u x w0 t0) body (R SA SB nA cA nB cB u x w i) (fun e s => e = .exit 4 ∧ s = R SA SB nA cA nB cB u x w i) :=
  Step.exec pg KL_ok (eX stepW roomI zeroB SA SB nA cA nB cB u x w i rd) hp (Nat.le_refl _) (viewL rfl rfl rfl rfl (gX ..) (mX ..) (rX ..) (dX ..))
theorem loopOk (SA SB : Scr) (nA cA nB cB : Nat) (u x w : W4) (hn : 0 < nB) (h40 : nB ≤ 40) (B : Int) (hI : Inv w B) (hB : 0 ≤ B) (hB2 : B ≤ 5000000) (wf : ∀ i, i < nB → -9223372036854775808 ≤ SB.n i ∧ SB.n i ≤ 9223372036854775807) (rd : Option Nat) : CodeOk Try.prog rd (.loop body) (E SA SB nA cA nB cB u x w 0) (.exit 4) (R SA SB nA cA nB cB u x (foldW SB w nB) nB) := by
  refine CodeOk.of_step (Step.loop (fun k y => (k = nB + 1 ∧ y = E SA SB nA cA nB cB u x w 0) ∨ ∃ i : Nat, 1 ≤ i ∧ i ≤ nB ∧ k = nB - i ∧ y = R SA SB nA cA nB cB u x (foldW SB w i) i) ?_ (nB + 1) _ (.inl ⟨rfl, rfl⟩))
  rintro k y (⟨rfl, rfl⟩ | ⟨i, h1, h2, rfl, rfl⟩)
  · refine (stepE SA SB nA cA nB cB u x w 0 rd w _ (pC_ok SB nB 0 w B hn h40 hI hB (by omega) (wf 0 hn))).mono ?_
    rintro e s ⟨rfl, rfl⟩
    refine .inl ⟨rfl, nB - 1, by omega, .inr ⟨1, by omega, by omega, rfl, ?_⟩⟩
    rw [nx_eq]; rfl
  · by_cases e : i = nB
    · subst e
      refine (stepX SA SB nA cA i cB u x (foldW SB w i) i rd w _ (pD_ok i)).mono ?_
      rintro e s ⟨rfl, rfl⟩
      exact .inr ⟨(by intro x; cases x), rfl, rfl⟩
    · have hlt : i < nB := by omega
      refine (stepR SA SB nA cA nB cB u x (foldW SB w i) i rd w _ (pC_ok SB nB i _ (B + 65536 * i) hlt h40 (fold_inv SB w B hI hB i) (by omega) (by omega) (wf i hlt))).mono ?_
      rintro e s ⟨rfl, rfl⟩
      refine .inl ⟨rfl, nB - (i + 1), by omega, .inr ⟨i + 1, by omega, by omega, rfl, ?_⟩⟩
      rw [nx_eq]; rfl
noncomputable def J : List Nat := [13, 14, 15, 16, 17, 18, 19, 20, 22, 24, 25, 26, 27, 40, 41, 42, 43, 45, 46, 47, 48, 49, 50, 52, 54, 55, 56, 60, 61, 62, 63, 64, 65, 66, 69, 70, 71, 72, 75, 76, 77, 78, 79, 80, 83, 84, 85]
end L2nr
namespace L2zr
noncomputable def hp (SA SB : Scr) (nA cA nB cB : Nat) (u x w : W4) : Nat → Option Ob := fun i => match i with
  | 0 => none
  | 1 => some (.cells (.rows nB 4 SB.row) 0)
  | 2 => some (.cells (.lit (W4.cells w)) 46)
  | 3 => some (.cells (.lit (W4.row w)) 27)
  | 4 => some (.cells (.lit (W4.cells x)) 46)
  | 5 => some (.cells (.lit (W4.cells u)) 46)
  | 6 => some (.cells (.lit (W4.row x)) 27)
  | _ => none
noncomputable def mkL (SA SB : Scr) (nA cA nB cB : Nat) (u x w : W4) (t : List Value) : St := ⟨t, [], Tr.rebuild (hp SA SB nA cA nB cB u x w) 7, 7, 2, [], fun _ => false, True, []⟩
noncomputable def tE (SA SB : Scr) (nA cA nB cB : Nat) (u x w : W4) (i : Nat) : List Value := [.slice (some ⟨0, 0, none⟩) 0 cA, .slice (some ⟨1, 0, none⟩) nB cB] ++ U 2 ++ [.bool false, P0 2 0, P0 3 0, .int .i64 0, P0 4 0, P0 5 0, P0 6 0, .int .i64 (nB : Int), .int .i64 (i : Int)] ++ J 8 ++ U 1 ++ J 1 ++ [.agg #[.int .i64 0, .int .i64 0, .int .i64 0, .int .i64 0]] ++ J 4 ++ U 12 ++ J 4 ++ [.agg u.row.toArray] ++ J 6 ++ [.tuple #[.agg #[junk, junk, junk, junk], junk]] ++ J 1 ++ [.agg #[junk, junk, junk, junk]] ++ J 3 ++ [.agg #[junk, junk, junk, junk], .tuple #[.agg #[junk, junk, junk, junk], junk], .agg #[junk, junk, junk, junk]] ++ J 7 ++ [.agg u.row.toArray, .agg u.row.toArray] ++ J 4 ++ [.agg x.row.toArray, .agg x.row.toArray] ++ J 6 ++ [.agg u.row.toArray, .agg x.row.toArray] ++ J 3 ++ U 22
noncomputable def tR (SA SB : Scr) (nA cA nB cB : Nat) (u x w : W4) (i : Nat) : List Value := [.slice (some ⟨0, 0, none⟩) 0 cA, .slice (some ⟨1, 0, none⟩) nB cB] ++ U 2 ++ [.bool false, P0 2 0, P0 3 0, .int .i64 0, P0 4 0, P0 5 0, P0 6 0, .int .i64 (nB : Int), .int .i64 (i : Int)] ++ J 8 ++ U 1 ++ J 1 ++ [.agg #[.int .i64 0, .int .i64 0, .int .i64 0, .int .i64 0]] ++ J 4 ++ U 12 ++ J 4 ++ [.agg u.row.toArray] ++ J 6 ++ [.tuple #[.agg #[junk, junk, junk, junk], junk]] ++ J 1 ++ [.agg #[junk, junk, junk, junk]] ++ J 3 ++ [.agg #[junk, junk, junk, junk], .tuple #[.agg #[junk, junk, junk, junk], junk], .agg #[junk, junk, junk, junk]] ++ J 7 ++ [.agg u.row.toArray, .agg u.row.toArray] ++ J 4 ++ [.agg x.row.toArray, .agg x.row.toArray] ++ J 6 ++ [.agg u.row.toArray, .agg x.row.toArray] ++ J 9 ++ [.tuple #[.agg #[junk, junk, junk, junk], junk]] ++ J 1 ++ [.agg #[junk, junk, junk, junk]] ++ J 3 ++ [.agg #[junk, junk, junk, junk], .tuple #[.agg #[junk, junk, junk, junk], junk], .agg #[junk, junk, junk, junk]] ++ J 1 ++ U 6
noncomputable def E (SA SB : Scr) (nA cA nB cB : Nat) (u x w : W4) (i : Nat) : St := mkL SA SB nA cA nB cB u x w (tE SA SB nA cA nB cB u x w i)
noncomputable def R (SA SB : Scr) (nA cA nB cB : Nat) (u x w : W4) (i : Nat) : St := mkL SA SB nA cA nB cB u x w (tR SA SB nA cA nB cB u x w i)
noncomputable def body : Code := loopB Try.prog 4 2
section
variable (F : StepT) (rm : RoomT) (zb : ZeroT) (SA SB : Scr) (nA cA nB cB : Nat) (u x w : W4) (i : Nat) (rd : Option Nat)
noncomputable def runE : Option (Exit × St) := (mk Try.prog (KL F rm zb) 200).code 4 rd body { E SA SB nA cA nB cB u x w i with obl := True, orc := oC }
theorem eE : (runE F rm zb SA SB nA cA nB cB u x w i rd).map (fun r => (r.1, r.2.obl)) = some (.normal, pC F SB nB w i) := by kernel_rfl
noncomputable def sE : St := ((runE F rm zb SA SB nA cA nB cB u x w i rd).map (·.2)).getD (E SA SB nA cA nB cB u x w i)
theorem gE : (List.range 7).map (sE F rm zb SA SB nA cA nB cB u x w i rd).heap.get = (List.range 7).map (hp SA SB nA cA nB cB u x (nx F SB w i)) := by kernel_rfl
theorem mE : maskD (sE F rm zb SA SB nA cA nB cB u x w i rd).tmps (R SA SB nA cA nB cB u x (nx F SB w i) (i + 1)).tmps = (R SA SB nA cA nB cB u x (nx F SB w i) (i + 1)).tmps.map (ren id) := by kernel_rfl
theorem rE : ((sE F rm zb SA SB nA cA nB cB u x w i rd).roB, (sE F rm zb SA SB nA cA nB cB u x w i rd).ro, (sE F rm zb SA SB nA cA nB cB u x w i rd).defers) = (2, [], []) := by kernel_rfl
theorem dE : (sE F rm zb SA SB nA cA nB cB u x w i rd).hid = fun _ => false := by kernel_rfl
noncomputable def runR : Option (Exit × St) := (mk Try.prog (KL F rm zb) 200).code 4 rd body { R SA SB nA cA nB cB u x w i with obl := True, orc := oC }
theorem eR : (runR F rm zb SA SB nA cA nB cB u x w i rd).map (fun r => (r.1, r.2.obl)) = some (.normal, pC F SB nB w i) := by kernel_rfl
noncomputable def sR : St := ((runR F rm zb SA SB nA cA nB cB u x w i rd).map (·.2)).getD (R SA SB nA cA nB cB u x w i)
theorem gR : (List.range 7).map (sR F rm zb SA SB nA cA nB cB u x w i rd).heap.get = (List.range 7).map (hp SA SB nA cA nB cB u x (nx F SB w i)) := by kernel_rfl
theorem mR : maskD (sR F rm zb SA SB nA cA nB cB u x w i rd).tmps (R SA SB nA cA nB cB u x (nx F SB w i) (i + 1)).tmps = (R SA SB nA cA nB cB u x (nx F SB w i) (i + 1)).tmps.map (ren id) := by kernel_rfl
theorem rR : ((sR F rm zb SA SB nA cA nB cB u x w i rd).roB, (sR F rm zb SA SB nA cA nB cB u x w i rd).ro, (sR F rm zb SA SB nA cA nB cB u x w i rd).defers) = (2, [], []) := by kernel_rfl
theorem dR : (sR F rm zb SA SB nA cA nB cB u x w i rd).hid = fun _ => false := by kernel_rfl
noncomputable def runX : Option (Exit × St) := (mk Try.prog (KL F rm zb) 200).code 4 rd body { R SA SB nA cA nB cB u x w i with obl := True, orc := [some false] }
theorem eX : (runX F rm zb SA SB nA cA nB cB u x w i rd).map (fun r => (r.1, r.2.obl)) = some (.exit 4, pD nB i) := by kernel_rfl
noncomputable def sX : St := ((runX F rm zb SA SB nA cA nB cB u x w i rd).map (·.2)).getD (R SA SB nA cA nB cB u x w i)
theorem gX : (List.range 7).map (sX F rm zb SA SB nA cA nB cB u x w i rd).heap.get = (List.range 7).map (hp SA SB nA cA nB cB u x w) := by kernel_rfl
theorem mX : maskD (sX F rm zb SA SB nA cA nB cB u x w i rd).tmps (R SA SB nA cA nB cB u x w i).tmps = (R SA SB nA cA nB cB u x w i).tmps.map (ren id) := by kernel_rfl
theorem rX : ((sX F rm zb SA SB nA cA nB cB u x w i rd).roB, (sX F rm zb SA SB nA cA nB cB u x w i rd).ro, (sX F rm zb SA SB nA cA nB cB u x w i rd).defers) = (2, [], []) := by kernel_rfl
theorem dX : (sX F rm zb SA SB nA cA nB cB u x w i rd).hid = fun _ => false := by kernel_rfl
end
theorem obB {s2 : St} {SA SB : Scr} {nA cA nB cB : Nat} {u x w : W4} : ∀ {j : Nat} {o : Ob}, hp SA SB nA cA nB cB u x w j = some o → ObV s2 id o o
  | 0, _, h => by cases h
  | 1, _, h => by cases h; exact ObV.rows fun _ => rfl
  | 2, _, h => by cases h; exact ObV.lit rfl rfl
  | 3, _, h => by cases h; exact ObV.lit rfl rfl
  | 4, _, h => by cases h; exact ObV.lit rfl rfl
  | 5, _, h => by cases h; exact ObV.lit rfl rfl
  | 6, _, h => by cases h; exact ObV.lit rfl rfl
  | n + 7, _, h => by cases h
theorem viewL {SA SB : Scr} {nA cA nB cB : Nat} {u x w : W4} {i : Nat} {s0 s1 : St} (h0n : s0.next = 7) (h0r : s0.roB = 2) (h0g : s0.heap.get 0 = hp SA SB nA cA nB cB u x w 0) (h0h : s0.heap.get 1 = hp SA SB nA cA nB cB u x w 1) (hg : (List.range 7).map s1.heap.get = (List.range 7).map (hp SA SB nA cA nB cB u x w))
    (hm : maskD s1.tmps (R SA SB nA cA nB cB u x w i).tmps = (R SA SB nA cA nB cB u x w i).tmps.map (ren id)) (hr : (s1.roB, s1.ro, s1.defers) = (2, [], [])) (hd : s1.hid = fun _ => false) : View s0 s1 (R SA SB nA cA nB cB u x w i) id := by
  simp only [Prod.mk.injEq] at hr
  obtain ⟨hr1, hr2, hr3⟩ := hr
  have get : ∀ j, j < 7 → s1.heap.get j = hp SA SB nA cA nB cB u x w j := fun j hj => by
    have := congrArg (fun l => l[j]?) hg
    simpa [List.getElem?_map, List.getElem?_range hj] using this
  refine View.shed (f := hp SA SB nA cA nB cB u x w) (n := 7) rfl (by decide) rfl hr1.symm hr2.symm hd.symm hm (by kernel_rfl) (by rw [hr3]; rfl) rfl (fun b hb => ?_) (Nat.le_of_eq h0n) (fun b hb h => (get b (by omega)).symm) (fun b o hb h => ⟨o, by rw [get b hb, h], obB h⟩)
  simp [okB, R, mkL, hb]
theorem stepE (SA SB : Scr) (nA cA nB cB : Nat) (u x w : W4) (i : Nat) (rd : Option Nat) (w0 : W4) (t0 : List Value) (hp : pC stepW SB nB w i) : Step Try.prog rd (mkL SA SB nA cA nB cB u x w0 t0) body (E SA SB nA cA nB cB u x w i) (fun e s => e = .normal ∧ s = R SA SB nA cA nB cB u x (nx stepW SB w i) (i + 1)) :=
  Step.exec pg KL_ok (eE stepW roomI zeroB SA SB nA cA nB cB u x w i rd) hp (Nat.le_refl _) (viewL rfl rfl rfl rfl (gE ..) (mE ..) (rE ..) (dE ..))
theorem stepR (SA SB : Scr) (nA cA nB cB : Nat) (u x w : W4) (i : Nat) (rd : Option Nat) (w0 : W4) (t0 : List Value) (hp : pC stepW SB nB w i) : Step Try.prog rd (mkL SA SB nA cA nB cB u x w0 t0) body (R SA SB nA cA nB cB u x w i) (fun e s => e = .normal ∧ s = R SA SB nA cA nB cB u x (nx stepW SB w i) (i + 1)) :=
  Step.exec pg KL_ok (eR stepW roomI zeroB SA SB nA cA nB cB u x w i rd) hp (Nat.le_refl _) (viewL rfl rfl rfl rfl (gR ..) (mR ..) (rR ..) (dR ..))
theorem stepX (SA SB : Scr) (nA cA nB cB : Nat) (u x w : W4) (i : Nat) (rd : Option Nat) (w0 : W4) (t0 : List Value) (hp : pD nB i) : Step Try.prog rd (mkL SA SB nA cA nB cB u x w0 t0) body (R SA SB nA cA nB cB u x w i) (fun e s => e = .exit 4 ∧ s = R SA SB nA cA nB cB u x w i) :=
  Step.exec pg KL_ok (eX stepW roomI zeroB SA SB nA cA nB cB u x w i rd) hp (Nat.le_refl _) (viewL rfl rfl rfl rfl (gX ..) (mX ..) (rX ..) (dX ..))
theorem loopOk (SA SB : Scr) (nA cA nB cB : Nat) (u x w : W4) (hn : 0 < nB) (h40 : nB ≤ 40) (B : Int) (hI : Inv w B) (hB : 0 ≤ B) (hB2 : B ≤ 5000000) (wf : ∀ i, i < nB → -9223372036854775808 ≤ SB.n i ∧ SB.n i ≤ 9223372036854775807) (rd : Option Nat) : CodeOk Try.prog rd (.loop body) (E SA SB nA cA nB cB u x w 0) (.exit 4) (R SA SB nA cA nB cB u x (foldW SB w nB) nB) := by
  refine CodeOk.of_step (Step.loop (fun k y => (k = nB + 1 ∧ y = E SA SB nA cA nB cB u x w 0) ∨ ∃ i : Nat, 1 ≤ i ∧ i ≤ nB ∧ k = nB - i ∧ y = R SA SB nA cA nB cB u x (foldW SB w i) i) ?_ (nB + 1) _ (.inl ⟨rfl, rfl⟩))
  rintro k y (⟨rfl, rfl⟩ | ⟨i, h1, h2, rfl, rfl⟩)
  · refine (stepE SA SB nA cA nB cB u x w 0 rd w _ (pC_ok SB nB 0 w B hn h40 hI hB (by omega) (wf 0 hn))).mono ?_
    rintro e s ⟨rfl, rfl⟩
    refine .inl ⟨rfl, nB - 1, by omega, .inr ⟨1, by omega, by omega, rfl, ?_⟩⟩
    rw [nx_eq]; rfl
  · by_cases e : i = nB
    · subst e
      refine (stepX SA SB nA cA i cB u x (foldW SB w i) i rd w _ (pD_ok i)).mono ?_
      rintro e s ⟨rfl, rfl⟩
      exact .inr ⟨(by intro x; cases x), rfl, rfl⟩
    · have hlt : i < nB := by omega
      refine (stepR SA SB nA cA nB cB u x (foldW SB w i) i rd w _ (pC_ok SB nB i _ (B + 65536 * i) hlt h40 (fold_inv SB w B hI hB i) (by omega) (by omega) (wf i hlt))).mono ?_
      rintro e s ⟨rfl, rfl⟩
      refine .inl ⟨rfl, nB - (i + 1), by omega, .inr ⟨i + 1, by omega, by omega, rfl, ?_⟩⟩
      rw [nx_eq]; rfl
noncomputable def J : List Nat := [13, 14, 15, 16, 17, 18, 19, 20, 22, 24, 25, 26, 27, 40, 41, 42, 43, 45, 46, 47, 48, 49, 50, 52, 54, 55, 56, 60, 61, 62, 63, 64, 65, 66, 69, 70, 71, 72, 75, 76, 77, 78, 79, 80, 83, 84, 85]
end L2zr

end wn
end Go.Proofs.Ythgiflgofdmamaa
