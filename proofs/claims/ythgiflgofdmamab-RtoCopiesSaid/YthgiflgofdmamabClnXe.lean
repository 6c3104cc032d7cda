/- Read off the code by the clean reading. -/
import Derived.Test.YthgiflgofdmamabClnXd
import Derived.Test.YthgiflgofdmamabRows
import Derived.WalkKit
import Derived.ProofKit
import Derived.Below
import Derived.IntWalk
set_option linter.unusedVariables false
set_option linter.unusedSimpArgs false
set_option linter.deprecated false
set_option maxRecDepth 100000
namespace Go.Proofs.Ythgiflgofdmamab
open Go.ChangeShapes Go.WideShapes Go.ChangeAt Go.RowKit Go.Cln
namespace rn
set_option linter.unusedVariables false
set_option linter.unusedSimpArgs false
theorem dt {p : Prop} [Decidable p] : (decide p = true) = p := decide_eq_true_eq
theorem df {p : Prop} [Decidable p] : (decide p = false) ↔ ¬ p := decide_eq_false_iff_not
theorem dr {α : Type} {a : α} [Decidable (a = a)] : decide (a = a) = true := decide_eq_true rfl
open Go.Cln
set_option maxHeartbeats 4000000 in
theorem go_rr (W : World) (B : Bd) (SA SB : Scr) (nA cA nB cB : Nat) (bA oA bB oB : Nat) (hBd : BdOk B) (hA : HasRows W bA oA nA 3 SA.row) (pa : 0 < nA) (qa : nA ≤ 40) (ca : nA ≤ cA) (wa : ∀ i, i < nA → wfT (SA.n i)) (hB : HasRows W bB oB nB 3 SB.row) (pb : 0 < nB) (qb : nB ≤ 40) (cb : nB ≤ cB) (wb : ∀ i, i < nB → wfT (SB.n i)) : Calls Try.prog 4 #[.agg B.row.toArray, .slice (some ⟨bA, oA, none⟩) nA cA, .slice (some ⟨bB, oB, none⟩) nB cB] W fun e w' => e = .returned (.bool true) ∧ Below W.heap.size W w' := by
  obtain ⟨zA, kA⟩ := obr hA pa
  obtain ⟨zB, kB⟩ := obr hB pb
  have o0 : Of B (newC B) := stC_of ⟨fun _ => 0, fun _ => 0, fun _ => false⟩ B hBd 0
  have oA1 : Of B (foldC SA (newC B) nA) := fold_of SA B _ o0 nA
  have oB1 : Of B (foldC SB (foldC SA (newC B) nA) nB) := fold_of SB B _ oA1 nB
  obtain ⟨q0, q1, q2, q3, q4, q5⟩ := hBd
  have hb : 1 ≤ B.fi := by omega
  have hu : 1 ≤ (foldC SA (newC B) nA).fi := by rw [oA1.2.1]; exact hb
  have hx : 1 ≤ (foldC SB (foldC SA (newC B) nA) nB).fi := by rw [oB1.2.1]; exact hb
  have hs : ∀ orc, Hs (St.start 2 (st_rr SA SB nA cA nB cB) orc) (fun i => if i = 0 then (⟨bA, oA, zA⟩ : PB) else ⟨bB, oB, zB⟩) W := fun orc => start2 orc ⟨bA, oA, zA⟩ ⟨bB, oB, zB⟩ (fun o e Q ρ => by cases e; exact kA Q ρ) (fun o e Q ρ => by cases e; exact kB Q ρ)
  have k0 : ∀ rd, CodeOk Try.prog rd (.loop L0rr.body) (L0rr.E B SA SB nA cA nB cB (newC B) (newC B) (newC B) 0) (.exit 0) (L0rr.R B SA SB nA cA nB cB (newC B) (newC B) (foldC SA (newC B) nA) nA) := fun rd => L0rr.loopOk B SA SB nA cA nB cB (newC B) (newC B) (newC B) pa qa o0 wa rd
  have k1 : ∀ rd, CodeOk Try.prog rd (.loop L1rr.body) (L1rr.E B SA SB nA cA nB cB (foldC SA (newC B) nA) (newC B) (foldC SA (newC B) nA) 0) (.exit 2) (L1rr.R B SA SB nA cA nB cB (foldC SA (newC B) nA) (newC B) (foldC SB (foldC SA (newC B) nA) nB) nB) := fun rd => L1rr.loopOk B SA SB nA cA nB cB (foldC SA (newC B) nA) (newC B) (foldC SA (newC B) nA) pb qb oA1 wb rd
  have k2 : ∀ rd, CodeOk Try.prog rd (.loop L2rr.body) (L2rr.E B SA SB nA cA nB cB (foldC SA (newC B) nA) (foldC SB (foldC SA (newC B) nA) nB) (foldC SA (newC B) nA) 0) (.exit 4) (L2rr.R B SA SB nA cA nB cB (foldC SA (newC B) nA) (foldC SB (foldC SA (newC B) nA) nB) (foldC SB (foldC SA (newC B) nA) nB) nB) := fun rd => L2rr.loopOk B SA SB nA cA nB cB (foldC SA (newC B) nA) (foldC SB (foldC SA (newC B) nA) nB) (foldC SA (newC B) nA) pb qb oA1 wb rd
  exact ranG pg (GivenOk.asking KL_ok (LM_rr B SA SB nA cA nB cB)) (run_rr B SA SB nA cA nB cB) ⟨⟨⟨⟨⟨⟨⟨⟨⟨⟨⟨⟨⟨⟨⟨⟨⟨⟨⟨⟨⟨⟨⟨⟨⟨⟨⟨⟨⟨⟨⟨⟨⟨⟨⟨⟨⟨⟨⟨⟨⟨⟨⟨⟨⟨⟨⟨⟨⟨⟨⟨⟨⟨⟨⟨⟨⟨⟨⟨⟨⟨⟨⟨⟨⟨⟨⟨⟨⟨⟨⟨trivial, (by simp only [dt, df]; omega)⟩, (by simp only [dt, df]; omega)⟩, (by simp only [dt, df]; omega)⟩, (by simp only [dt, df]; omega)⟩, (by simp only [dt, df]; omega)⟩, (by simp only [dt, df]; omega)⟩, (by simp only [dt, df]; omega)⟩, (by simp only [dt, df]; omega)⟩, k0⟩, ⟨hu, trivial⟩⟩, ⟨hu, trivial⟩⟩, k1⟩, ⟨hu, trivial⟩⟩, ⟨hu, trivial⟩⟩, dr⟩, dr⟩, dr⟩, dr⟩, dr⟩, dr⟩, dr⟩, dr⟩, dr⟩, dr⟩, dr⟩, ⟨hu, trivial⟩⟩, dr⟩, dr⟩, dr⟩, dr⟩, ⟨hu, trivial⟩⟩, dr⟩, dr⟩, dr⟩, dr⟩, dr⟩, dr⟩, ⟨hu, trivial⟩⟩, dr⟩, dr⟩, (by first | (simp; done) | omega)⟩, ⟨hx, trivial⟩⟩, dr⟩, dr⟩, dr⟩, dr⟩, ⟨hx, trivial⟩⟩, dr⟩, dr⟩, dr⟩, dr⟩, dr⟩, dr⟩, ⟨hx, trivial⟩⟩, dr⟩, dr⟩, (by first | (simp; done) | omega)⟩, k2⟩, ⟨hx, trivial⟩⟩, ⟨hx, trivial⟩⟩, dr⟩, dr⟩, dr⟩, dr⟩, dr⟩, dr⟩, dr⟩, dr⟩, dr⟩, dr⟩, dr⟩ rfl (hs _) (VL.cons (.of_flat rfl) (VL.cons (.slice ⟨show (0 : Nat) < 2 by omega, rfl⟩ ca ⟨.inr rfl, fun _ => rfl, fun z hz => by cases hz⟩) (VL.cons (.slice ⟨show (1 : Nat) < 2 by omega, rfl⟩ cb ⟨.inr rfl, fun _ => rfl, fun z hz => by cases hz⟩) VL.nil)))
set_option maxHeartbeats 4000000 in
theorem go_nr (W : World) (B : Bd) (SA SB : Scr) (nA cA nB cB : Nat) (bA oA bB oB : Nat) (hBd : BdOk B) (hB : HasRows W bB oB nB 3 SB.row) (pb : 0 < nB) (qb : nB ≤ 40) (cb : nB ≤ cB) (wb : ∀ i, i < nB → wfT (SB.n i)) : Calls Try.prog 4 #[.agg B.row.toArray, .slice none 0 0, .slice (some ⟨bB, oB, none⟩) nB cB] W fun e w' => e = .returned (.bool true) ∧ Below W.heap.size W w' := by
  obtain ⟨zB, kB⟩ := obr hB pb
  have o0 : Of B (newC B) := stC_of ⟨fun _ => 0, fun _ => 0, fun _ => false⟩ B hBd 0
  have oA1 : Of B (newC B) := o0
  have oB1 : Of B (foldC SB (newC B) nB) := fold_of SB B _ oA1 nB
  obtain ⟨q0, q1, q2, q3, q4, q5⟩ := hBd
  have hb : 1 ≤ B.fi := by omega
  have hu : 1 ≤ (newC B).fi := by rw [oA1.2.1]; exact hb
  have hx : 1 ≤ (foldC SB (newC B) nB).fi := by rw [oB1.2.1]; exact hb
  have hs : ∀ orc, Hs (St.start 2 (st_nr SA SB nA cA nB cB) orc) (fun i => if i = 0 then (⟨bA, oA, 0⟩ : PB) else ⟨bB, oB, zB⟩) W := fun orc => start2 orc ⟨bA, oA, 0⟩ ⟨bB, oB, zB⟩ (fun o e => by cases e) (fun o e Q ρ => by cases e; exact kB Q ρ)
  have k0 : ∀ rd, CodeOk Try.prog rd (.loop L1nr.body) (L1nr.E B SA SB nA cA nB cB (newC B) (newC B) (newC B) 0) (.exit 2) (L1nr.R B SA SB nA cA nB cB (newC B) (newC B) (foldC SB (newC B) nB) nB) := fun rd => L1nr.loopOk B SA SB nA cA nB cB (newC B) (newC B) (newC B) pb qb oA1 wb rd
  have k1 : ∀ rd, CodeOk Try.prog rd (.loop L2nr.body) (L2nr.E B SA SB nA cA nB cB (newC B) (foldC SB (newC B) nB) (newC B) 0) (.exit 4) (L2nr.R B SA SB nA cA nB cB (newC B) (foldC SB (newC B) nB) (foldC SB (newC B) nB) nB) := fun rd => L2nr.loopOk B SA SB nA cA nB cB (newC B) (foldC SB (newC B) nB) (newC B) pb qb oA1 wb rd
  exact ranG pg (GivenOk.asking KL_ok (LM_nr B SA SB nA cA nB cB)) (run_nr B SA SB nA cA nB cB) ⟨⟨⟨⟨⟨⟨⟨⟨⟨⟨⟨⟨⟨⟨⟨⟨⟨⟨⟨⟨⟨⟨⟨⟨⟨⟨⟨⟨⟨⟨⟨⟨⟨⟨⟨⟨⟨⟨⟨⟨⟨⟨⟨⟨⟨⟨⟨⟨⟨⟨⟨⟨⟨⟨⟨⟨trivial, (by simp only [dt, df]; omega)⟩, (by simp only [dt, df]; omega)⟩, (by simp only [dt, df]; omega)⟩, (by simp only [dt, df]; omega)⟩, (by simp only [dt, df]; omega)⟩, (by simp only [dt, df]; omega)⟩, (by simp only [dt, df]; omega)⟩, ⟨hb, trivial⟩⟩, ⟨hb, trivial⟩⟩, k0⟩, ⟨hb, trivial⟩⟩, ⟨hb, trivial⟩⟩, dr⟩, dr⟩, dr⟩, dr⟩, dr⟩, ⟨hb, trivial⟩⟩, dr⟩, dr⟩, dr⟩, dr⟩, ⟨hb, trivial⟩⟩, dr⟩, dr⟩, ⟨hb, trivial⟩⟩, ⟨hx, trivial⟩⟩, dr⟩, dr⟩, dr⟩, dr⟩, ⟨hx, trivial⟩⟩, dr⟩, dr⟩, dr⟩, dr⟩, dr⟩, dr⟩, ⟨hx, trivial⟩⟩, dr⟩, dr⟩, (by first | (simp; done) | omega)⟩, k1⟩, ⟨hx, trivial⟩⟩, ⟨hx, trivial⟩⟩, dr⟩, dr⟩, dr⟩, dr⟩, dr⟩, dr⟩, dr⟩, dr⟩, dr⟩, dr⟩, dr⟩ rfl (hs _) (VL.cons (.of_flat rfl) (VL.cons (.same rfl) (VL.cons (.slice ⟨show (1 : Nat) < 2 by omega, rfl⟩ cb ⟨.inr rfl, fun _ => rfl, fun z hz => by cases hz⟩) VL.nil)))
set_option maxHeartbeats 4000000 in
theorem go_zr (W : World) (B : Bd) (SA SB : Scr) (nA cA nB cB : Nat) (bA oA bB oB : Nat) (hBd : BdOk B) (hB : HasRows W bB oB nB 3 SB.row) (pb : 0 < nB) (qb : nB ≤ 40) (cb : nB ≤ cB) (wb : ∀ i, i < nB → wfT (SB.n i)) : Calls Try.prog 4 #[.agg B.row.toArray, .slice (some ⟨bA, oA, none⟩) 0 cA, .slice (some ⟨bB, oB, none⟩) nB cB] W fun e w' => e = .returned (.bool true) ∧ Below W.heap.size W w' := by
  obtain ⟨zB, kB⟩ := obr hB pb
  have o0 : Of B (newC B) := stC_of ⟨fun _ => 0, fun _ => 0, fun _ => false⟩ B hBd 0
  have oA1 : Of B (newC B) := o0
  have oB1 : Of B (foldC SB (newC B) nB) := fold_of SB B _ oA1 nB
  obtain ⟨q0, q1, q2, q3, q4, q5⟩ := hBd
  have hb : 1 ≤ B.fi := by omega
  have hu : 1 ≤ (newC B).fi := by rw [oA1.2.1]; exact hb
  have hx : 1 ≤ (foldC SB (newC B) nB).fi := by rw [oB1.2.1]; exact hb
  have hs : ∀ orc, Hs (St.start 2 (st_zr SA SB nA cA nB cB) orc) (fun i => if i = 0 then (⟨bA, oA, 0⟩ : PB) else ⟨bB, oB, zB⟩) W := fun orc => start2 orc ⟨bA, oA, 0⟩ ⟨bB, oB, zB⟩ (fun o e => by cases e) (fun o e Q ρ => by cases e; exact kB Q ρ)
  have k0 : ∀ rd, CodeOk Try.prog rd (.loop L1zr.body) (L1zr.E B SA SB nA cA nB cB (newC B) (newC B) (newC B) 0) (.exit 2) (L1zr.R B SA SB nA cA nB cB (newC B) (newC B) (foldC SB (newC B) nB) nB) := fun rd => L1zr.loopOk B SA SB nA cA nB cB (newC B) (newC B) (newC B) pb qb oA1 wb rd
  have k1 : ∀ rd, CodeOk Try.prog rd (.loop L2zr.body) (L2zr.E B SA SB nA cA nB cB (newC B) (foldC SB (newC B) nB) (newC B) 0) (.exit 4) (L2zr.R B SA SB nA cA nB cB (newC B) (foldC SB (newC B) nB) (foldC SB (newC B) nB) nB) := fun rd => L2zr.loopOk B SA SB nA cA nB cB (newC B) (foldC SB (newC B) nB) (newC B) pb qb oA1 wb rd
  exact ranG pg (GivenOk.asking KL_ok (LM_zr B SA SB nA cA nB cB)) (run_zr B SA SB nA cA nB cB) ⟨⟨⟨⟨⟨⟨⟨⟨⟨⟨⟨⟨⟨⟨⟨⟨⟨⟨⟨⟨⟨⟨⟨⟨⟨⟨⟨⟨⟨⟨⟨⟨⟨⟨⟨⟨⟨⟨⟨⟨⟨⟨⟨⟨⟨⟨⟨⟨⟨⟨⟨⟨⟨⟨⟨⟨trivial, (by simp only [dt, df]; omega)⟩, (by simp only [dt, df]; omega)⟩, (by simp only [dt, df]; omega)⟩, (by simp only [dt, df]; omega)⟩, (by simp only [dt, df]; omega)⟩, (by simp only [dt, df]; omega)⟩, (by simp only [dt, df]; omega)⟩, ⟨hb, trivial⟩⟩, ⟨hb, trivial⟩⟩, k0⟩, ⟨hb, trivial⟩⟩, ⟨hb, trivial⟩⟩, dr⟩, dr⟩, dr⟩, dr⟩, dr⟩, ⟨hb, trivial⟩⟩, dr⟩, dr⟩, dr⟩, dr⟩, ⟨hb, trivial⟩⟩, dr⟩, dr⟩, ⟨hb, trivial⟩⟩, ⟨hx, trivial⟩⟩, dr⟩, dr⟩, dr⟩, dr⟩, ⟨hx, trivial⟩⟩, dr⟩, dr⟩, dr⟩, dr⟩, dr⟩, dr⟩, ⟨hx, trivial⟩⟩, dr⟩, dr⟩, (by first | (simp; done) | omega)⟩, k1⟩, ⟨hx, trivial⟩⟩, ⟨hx, trivial⟩⟩, dr⟩, dr⟩, dr⟩, dr⟩, dr⟩, dr⟩, dr⟩, dr⟩, dr⟩, dr⟩, dr⟩ rfl (hs _) (VL.cons (.of_flat rfl) (VL.cons (.slice ⟨show (0 : Nat) < 2 by omega, rfl⟩ (Nat.zero_le _) ⟨.inr rfl, fun _ => rfl, fun z hz => by cases hz⟩) (VL.cons (.slice ⟨show (1 : Nat) < 2 by omega, rfl⟩ cb ⟨.inr rfl, fun _ => rfl, fun z hz => by cases hz⟩) VL.nil)))
set_option maxHeartbeats 4000000 in
theorem go_rn (W : World) (B : Bd) (SA SB : Scr) (nA cA nB cB : Nat) (bA oA bB oB : Nat) (hBd : BdOk B) (hA : HasRows W bA oA nA 3 SA.row) (pa : 0 < nA) (qa : nA ≤ 40) (ca : nA ≤ cA) (wa : ∀ i, i < nA → wfT (SA.n i)) : Calls Try.prog 4 #[.agg B.row.toArray, .slice (some ⟨bA, oA, none⟩) nA cA, .slice none 0 0] W fun e w' => e = .returned (.bool true) ∧ Below W.heap.size W w' := by
  obtain ⟨zA, kA⟩ := obr hA pa
  have o0 : Of B (newC B) := stC_of ⟨fun _ => 0, fun _ => 0, fun _ => false⟩ B hBd 0
  have oA1 : Of B (foldC SA (newC B) nA) := fold_of SA B _ o0 nA
  have oB1 : Of B (foldC SB (foldC SA (newC B) nA) nB) := fold_of SB B _ oA1 nB
  obtain ⟨q0, q1, q2, q3, q4, q5⟩ := hBd
  have hb : 1 ≤ B.fi := by omega
  have hu : 1 ≤ (foldC SA (newC B) nA).fi := by rw [oA1.2.1]; exact hb
  have hx : 1 ≤ (foldC SB (foldC SA (newC B) nA) nB).fi := by rw [oB1.2.1]; exact hb
  have hs : ∀ orc, Hs (St.start 2 (st_rn SA SB nA cA nB cB) orc) (fun i => if i = 0 then (⟨bA, oA, zA⟩ : PB) else ⟨bB, oB, 0⟩) W := fun orc => start2 orc ⟨bA, oA, zA⟩ ⟨bB, oB, 0⟩ (fun o e Q ρ => by cases e; exact kA Q ρ) (fun o e => by cases e)
  have k0 : ∀ rd, CodeOk Try.prog rd (.loop L0rn.body) (L0rn.E B SA SB nA cA nB cB (newC B) (newC B) (newC B) 0) (.exit 0) (L0rn.R B SA SB nA cA nB cB (newC B) (newC B) (foldC SA (newC B) nA) nA) := fun rd => L0rn.loopOk B SA SB nA cA nB cB (newC B) (newC B) (newC B) pa qa o0 wa rd
  exact ranG pg (GivenOk.asking KL_ok (LM_rn B SA SB nA cA nB cB)) (run_rn B SA SB nA cA nB cB) ⟨⟨⟨⟨⟨⟨⟨⟨⟨⟨⟨⟨⟨⟨⟨⟨⟨⟨⟨⟨⟨⟨⟨⟨⟨⟨⟨⟨⟨⟨⟨⟨⟨⟨⟨⟨⟨⟨⟨⟨⟨⟨⟨⟨⟨⟨⟨⟨⟨⟨⟨⟨⟨⟨⟨⟨⟨⟨⟨⟨⟨⟨⟨⟨⟨⟨⟨⟨trivial, (by simp only [dt, df]; omega)⟩, (by simp only [dt, df]; omega)⟩, (by simp only [dt, df]; omega)⟩, (by simp only [dt, df]; omega)⟩, (by simp only [dt, df]; omega)⟩, (by simp only [dt, df]; omega)⟩, (by simp only [dt, df]; omega)⟩, k0⟩, ⟨hu, trivial⟩⟩, ⟨hu, trivial⟩⟩, ⟨hu, trivial⟩⟩, ⟨hu, trivial⟩⟩, dr⟩, dr⟩, dr⟩, dr⟩, dr⟩, dr⟩, dr⟩, dr⟩, dr⟩, dr⟩, dr⟩, ⟨hu, trivial⟩⟩, dr⟩, dr⟩, dr⟩, dr⟩, ⟨hu, trivial⟩⟩, dr⟩, dr⟩, dr⟩, dr⟩, dr⟩, dr⟩, ⟨hu, trivial⟩⟩, dr⟩, dr⟩, (by first | (simp; done) | omega)⟩, ⟨hu, trivial⟩⟩, dr⟩, dr⟩, dr⟩, dr⟩, ⟨hu, trivial⟩⟩, dr⟩, dr⟩, dr⟩, dr⟩, dr⟩, dr⟩, ⟨hu, trivial⟩⟩, dr⟩, dr⟩, (by first | (simp; done) | omega)⟩, ⟨hu, trivial⟩⟩, ⟨hu, trivial⟩⟩, dr⟩, dr⟩, dr⟩, dr⟩, dr⟩, dr⟩, dr⟩, dr⟩, dr⟩, dr⟩, dr⟩ rfl (hs _) (VL.cons (.of_flat rfl) (VL.cons (.slice ⟨show (0 : Nat) < 2 by omega, rfl⟩ ca ⟨.inr rfl, fun _ => rfl, fun z hz => by cases hz⟩) (VL.cons (.same rfl) VL.nil)))
set_option maxHeartbeats 4000000 in
theorem go_rz (W : World) (B : Bd) (SA SB : Scr) (nA cA nB cB : Nat) (bA oA bB oB : Nat) (hBd : BdOk B) (hA : HasRows W bA oA nA 3 SA.row) (pa : 0 < nA) (qa : nA ≤ 40) (ca : nA ≤ cA) (wa : ∀ i, i < nA → wfT (SA.n i)) : Calls Try.prog 4 #[.agg B.row.toArray, .slice (some ⟨bA, oA, none⟩) nA cA, .slice (some ⟨bB, oB, none⟩) 0 cB] W fun e w' => e = .returned (.bool true) ∧ Below W.heap.size W w' := by
  obtain ⟨zA, kA⟩ := obr hA pa
  have o0 : Of B (newC B) := stC_of ⟨fun _ => 0, fun _ => 0, fun _ => false⟩ B hBd 0
  have oA1 : Of B (foldC SA (newC B) nA) := fold_of SA B _ o0 nA
  have oB1 : Of B (foldC SB (foldC SA (newC B) nA) nB) := fold_of SB B _ oA1 nB
  obtain ⟨q0, q1, q2, q3, q4, q5⟩ := hBd
  have hb : 1 ≤ B.fi := by omega
  have hu : 1 ≤ (foldC SA (newC B) nA).fi := by rw [oA1.2.1]; exact hb
  have hx : 1 ≤ (foldC SB (foldC SA (newC B) nA) nB).fi := by rw [oB1.2.1]; exact hb
  have hs : ∀ orc, Hs (St.start 2 (st_rz SA SB nA cA nB cB) orc) (fun i => if i = 0 then (⟨bA, oA, zA⟩ : PB) else ⟨bB, oB, 0⟩) W := fun orc => start2 orc ⟨bA, oA, zA⟩ ⟨bB, oB, 0⟩ (fun o e Q ρ => by cases e; exact kA Q ρ) (fun o e => by cases e)
  have k0 : ∀ rd, CodeOk Try.prog rd (.loop L0rz.body) (L0rz.E B SA SB nA cA nB cB (newC B) (newC B) (newC B) 0) (.exit 0) (L0rz.R B SA SB nA cA nB cB (newC B) (newC B) (foldC SA (newC B) nA) nA) := fun rd => L0rz.loopOk B SA SB nA cA nB cB (newC B) (newC B) (newC B) pa qa o0 wa rd
  exact ranG pg (GivenOk.asking KL_ok (LM_rz B SA SB nA cA nB cB)) (run_rz B SA SB nA cA nB cB) ⟨⟨⟨⟨⟨⟨⟨⟨⟨⟨⟨⟨⟨⟨⟨⟨⟨⟨⟨⟨⟨⟨⟨⟨⟨⟨⟨⟨⟨⟨⟨⟨⟨⟨⟨⟨⟨⟨⟨⟨⟨⟨⟨⟨⟨⟨⟨⟨⟨⟨⟨⟨⟨⟨⟨⟨⟨⟨⟨⟨⟨⟨⟨⟨⟨⟨⟨⟨trivial, (by simp only [dt, df]; omega)⟩, (by simp only [dt, df]; omega)⟩, (by simp only [dt, df]; omega)⟩, (by simp only [dt, df]; omega)⟩, (by simp only [dt, df]; omega)⟩, (by simp only [dt, df]; omega)⟩, (by simp only [dt, df]; omega)⟩, k0⟩, ⟨hu, trivial⟩⟩, ⟨hu, trivial⟩⟩, ⟨hu, trivial⟩⟩, ⟨hu, trivial⟩⟩, dr⟩, dr⟩, dr⟩, dr⟩, dr⟩, dr⟩, dr⟩, dr⟩, dr⟩, dr⟩, dr⟩, ⟨hu, trivial⟩⟩, dr⟩, dr⟩, dr⟩, dr⟩, ⟨hu, trivial⟩⟩, dr⟩, dr⟩, dr⟩, dr⟩, dr⟩, dr⟩, ⟨hu, trivial⟩⟩, dr⟩, dr⟩, (by first | (simp; done) | omega)⟩, ⟨hu, trivial⟩⟩, dr⟩, dr⟩, dr⟩, dr⟩, ⟨hu, trivial⟩⟩, dr⟩, dr⟩, dr⟩, dr⟩, dr⟩, dr⟩, ⟨hu, trivial⟩⟩, dr⟩, dr⟩, (by first | (simp; done) | omega)⟩, ⟨hu, trivial⟩⟩, ⟨hu, trivial⟩⟩, dr⟩, dr⟩, dr⟩, dr⟩, dr⟩, dr⟩, dr⟩, dr⟩, dr⟩, dr⟩, dr⟩ rfl (hs _) (VL.cons (.of_flat rfl) (VL.cons (.slice ⟨show (0 : Nat) < 2 by omega, rfl⟩ ca ⟨.inr rfl, fun _ => rfl, fun z hz => by cases hz⟩) (VL.cons (.slice ⟨show (1 : Nat) < 2 by omega, rfl⟩ (Nat.zero_le _) ⟨.inr rfl, fun _ => rfl, fun z hz => by cases hz⟩) VL.nil)))
set_option maxHeartbeats 4000000 in
theorem go_nn (W : World) (B : Bd) (SA SB : Scr) (nA cA nB cB : Nat) (bA oA bB oB : Nat) (hBd : BdOk B) : Calls Try.prog 4 #[.agg B.row.toArray, .slice none 0 0, .slice none 0 0] W fun e w' => e = .returned (.bool true) ∧ Below W.heap.size W w' := by
  have o0 : Of B (newC B) := stC_of ⟨fun _ => 0, fun _ => 0, fun _ => false⟩ B hBd 0
  have oA1 : Of B (newC B) := o0
  have oB1 : Of B (foldC SB (newC B) nB) := fold_of SB B _ oA1 nB
  obtain ⟨q0, q1, q2, q3, q4, q5⟩ := hBd
  have hb : 1 ≤ B.fi := by omega
  have hu : 1 ≤ (newC B).fi := by rw [oA1.2.1]; exact hb
  have hx : 1 ≤ (foldC SB (newC B) nB).fi := by rw [oB1.2.1]; exact hb
  have hs : ∀ orc, Hs (St.start 2 (st_nn SA SB nA cA nB cB) orc) (fun i => if i = 0 then (⟨bA, oA, 0⟩ : PB) else ⟨bB, oB, 0⟩) W := fun orc => start2 orc ⟨bA, oA, 0⟩ ⟨bB, oB, 0⟩ (fun o e => by cases e) (fun o e => by cases e)
  exact ranG pg (GivenOk.asking KL_ok (LM_nn B SA SB nA cA nB cB)) (run_nn B SA SB nA cA nB cB) ⟨⟨⟨⟨⟨⟨⟨⟨⟨⟨⟨⟨⟨⟨⟨⟨⟨⟨⟨⟨⟨⟨⟨⟨⟨⟨⟨⟨⟨⟨⟨⟨⟨⟨⟨⟨⟨⟨⟨⟨trivial, (by simp only [dt, df]; omega)⟩, (by simp only [dt, df]; omega)⟩, (by simp only [dt, df]; omega)⟩, (by simp only [dt, df]; omega)⟩, (by simp only [dt, df]; omega)⟩, (by simp only [dt, df]; omega)⟩, ⟨hb, trivial⟩⟩, ⟨hb, trivial⟩⟩, ⟨hb, trivial⟩⟩, ⟨hb, trivial⟩⟩, dr⟩, dr⟩, dr⟩, dr⟩, dr⟩, ⟨hb, trivial⟩⟩, dr⟩, dr⟩, dr⟩, dr⟩, ⟨hb, trivial⟩⟩, dr⟩, dr⟩, ⟨hb, trivial⟩⟩, ⟨hb, trivial⟩⟩, dr⟩, dr⟩, dr⟩, dr⟩, ⟨hb, trivial⟩⟩, dr⟩, dr⟩, ⟨hb, trivial⟩⟩, ⟨hb, trivial⟩⟩, ⟨hb, trivial⟩⟩, dr⟩, dr⟩, dr⟩, dr⟩, dr⟩ rfl (hs _) (VL.cons (.of_flat rfl) (VL.cons (.same rfl) (VL.cons (.same rfl) VL.nil)))
set_option maxHeartbeats 4000000 in
theorem go_nz (W : World) (B : Bd) (SA SB : Scr) (nA cA nB cB : Nat) (bA oA bB oB : Nat) (hBd : BdOk B) : Calls Try.prog 4 #[.agg B.row.toArray, .slice none 0 0, .slice (some ⟨bB, oB, none⟩) 0 cB] W fun e w' => e = .returned (.bool true) ∧ Below W.heap.size W w' := by
  have o0 : Of B (newC B) := stC_of ⟨fun _ => 0, fun _ => 0, fun _ => false⟩ B hBd 0
  have oA1 : Of B (newC B) := o0
  have oB1 : Of B (foldC SB (newC B) nB) := fold_of SB B _ oA1 nB
  obtain ⟨q0, q1, q2, q3, q4, q5⟩ := hBd
  have hb : 1 ≤ B.fi := by omega
  have hu : 1 ≤ (newC B).fi := by rw [oA1.2.1]; exact hb
  have hx : 1 ≤ (foldC SB (newC B) nB).fi := by rw [oB1.2.1]; exact hb
  have hs : ∀ orc, Hs (St.start 2 (st_nz SA SB nA cA nB cB) orc) (fun i => if i = 0 then (⟨bA, oA, 0⟩ : PB) else ⟨bB, oB, 0⟩) W := fun orc => start2 orc ⟨bA, oA, 0⟩ ⟨bB, oB, 0⟩ (fun o e => by cases e) (fun o e => by cases e)
  exact ranG pg (GivenOk.asking KL_ok (LM_nz B SA SB nA cA nB cB)) (run_nz B SA SB nA cA nB cB) ⟨⟨⟨⟨⟨⟨⟨⟨⟨⟨⟨⟨⟨⟨⟨⟨⟨⟨⟨⟨⟨⟨⟨⟨⟨⟨⟨⟨⟨⟨⟨⟨⟨⟨⟨⟨⟨⟨⟨⟨trivial, (by simp only [dt, df]; omega)⟩, (by simp only [dt, df]; omega)⟩, (by simp only [dt, df]; omega)⟩, (by simp only [dt, df]; omega)⟩, (by simp only [dt, df]; omega)⟩, (by simp only [dt, df]; omega)⟩, ⟨hb, trivial⟩⟩, ⟨hb, trivial⟩⟩, ⟨hb, trivial⟩⟩, ⟨hb, trivial⟩⟩, dr⟩, dr⟩, dr⟩, dr⟩, dr⟩, ⟨hb, trivial⟩⟩, dr⟩, dr⟩, dr⟩, dr⟩, ⟨hb, trivial⟩⟩, dr⟩, dr⟩, ⟨hb, trivial⟩⟩, ⟨hb, trivial⟩⟩, dr⟩, dr⟩, dr⟩, dr⟩, ⟨hb, trivial⟩⟩, dr⟩, dr⟩, ⟨hb, trivial⟩⟩, ⟨hb, trivial⟩⟩, ⟨hb, trivial⟩⟩, dr⟩, dr⟩, dr⟩, dr⟩, dr⟩ rfl (hs _) (VL.cons (.of_flat rfl) (VL.cons (.same rfl) (VL.cons (.slice ⟨show (1 : Nat) < 2 by omega, rfl⟩ (Nat.zero_le _) ⟨.inr rfl, fun _ => rfl, fun z hz => by cases hz⟩) VL.nil)))
set_option maxHeartbeats 4000000 in
theorem go_zn (W : World) (B : Bd) (SA SB : Scr) (nA cA nB cB : Nat) (bA oA bB oB : Nat) (hBd : BdOk B) : Calls Try.prog 4 #[.agg B.row.toArray, .slice (some ⟨bA, oA, none⟩) 0 cA, .slice none 0 0] W fun e w' => e = .returned (.bool true) ∧ Below W.heap.size W w' := by
  have o0 : Of B (newC B) := stC_of ⟨fun _ => 0, fun _ => 0, fun _ => false⟩ B hBd 0
  have oA1 : Of B (newC B) := o0
  have oB1 : Of B (foldC SB (newC B) nB) := fold_of SB B _ oA1 nB
  obtain ⟨q0, q1, q2, q3, q4, q5⟩ := hBd
  have hb : 1 ≤ B.fi := by omega
  have hu : 1 ≤ (newC B).fi := by rw [oA1.2.1]; exact hb
  have hx : 1 ≤ (foldC SB (newC B) nB).fi := by rw [oB1.2.1]; exact hb
  have hs : ∀ orc, Hs (St.start 2 (st_zn SA SB nA cA nB cB) orc) (fun i => if i = 0 then (⟨bA, oA, 0⟩ : PB) else ⟨bB, oB, 0⟩) W := fun orc => start2 orc ⟨bA, oA, 0⟩ ⟨bB, oB, 0⟩ (fun o e => by cases e) (fun o e => by cases e)
  exact ranG pg (GivenOk.asking KL_ok (LM_zn B SA SB nA cA nB cB)) (run_zn B SA SB nA cA nB cB) ⟨⟨⟨⟨⟨⟨⟨⟨⟨⟨⟨⟨⟨⟨⟨⟨⟨⟨⟨⟨⟨⟨⟨⟨⟨⟨⟨⟨⟨⟨⟨⟨⟨⟨⟨⟨⟨⟨⟨⟨trivial, (by simp only [dt, df]; omega)⟩, (by simp only [dt, df]; omega)⟩, (by simp only [dt, df]; omega)⟩, (by simp only [dt, df]; omega)⟩, (by simp only [dt, df]; omega)⟩, (by simp only [dt, df]; omega)⟩, ⟨hb, trivial⟩⟩, ⟨hb, trivial⟩⟩, ⟨hb, trivial⟩⟩, ⟨hb, trivial⟩⟩, dr⟩, dr⟩, dr⟩, dr⟩, dr⟩, ⟨hb, trivial⟩⟩, dr⟩, dr⟩, dr⟩, dr⟩, ⟨hb, trivial⟩⟩, dr⟩, dr⟩, ⟨hb, trivial⟩⟩, ⟨hb, trivial⟩⟩, dr⟩, dr⟩, dr⟩, dr⟩, ⟨hb, trivial⟩⟩, dr⟩, dr⟩, ⟨hb, trivial⟩⟩, ⟨hb, trivial⟩⟩, ⟨hb, trivial⟩⟩, dr⟩, dr⟩, dr⟩, dr⟩, dr⟩ rfl (hs _) (VL.cons (.of_flat rfl) (VL.cons (.slice ⟨show (0 : Nat) < 2 by omega, rfl⟩ (Nat.zero_le _) ⟨.inr rfl, fun _ => rfl, fun z hz => by cases hz⟩) (VL.cons (.same rfl) VL.nil)))
set_option maxHeartbeats 4000000 in
theorem go_zz (W : World) (B : Bd) (SA SB : Scr) (nA cA nB cB : Nat) (bA oA bB oB : Nat) (hBd : BdOk B) : Calls Try.prog 4 #[.agg B.row.toArray, .slice (some ⟨bA, oA, none⟩) 0 cA, .slice (some ⟨bB, oB, none⟩) 0 cB] W fun e w' => e = .returned (.bool true) ∧ Below W.heap.size W w' := by
  have o0 : Of B (newC B) := stC_of ⟨fun _ => 0, fun _ => 0, fun _ => false⟩ B hBd 0
  have oA1 : Of B (newC B) := o0
  have oB1 : Of B (foldC SB (newC B) nB) := fold_of SB B _ oA1 nB
  obtain ⟨q0, q1, q2, q3, q4, q5⟩ := hBd
  have hb : 1 ≤ B.fi := by omega
  have hu : 1 ≤ (newC B).fi := by rw [oA1.2.1]; exact hb
  have hx : 1 ≤ (foldC SB (newC B) nB).fi := by rw [oB1.2.1]; exact hb
  have hs : ∀ orc, Hs (St.start 2 (st_zz SA SB nA cA nB cB) orc) (fun i => if i = 0 then (⟨bA, oA, 0⟩ : PB) else ⟨bB, oB, 0⟩) W := fun orc => start2 orc ⟨bA, oA, 0⟩ ⟨bB, oB, 0⟩ (fun o e => by cases e) (fun o e => by cases e)
  exact ranG pg (GivenOk.asking KL_ok (LM_zz B SA SB nA cA nB cB)) (run_zz B SA SB nA cA nB cB) ⟨⟨⟨⟨⟨⟨⟨⟨⟨⟨⟨⟨⟨⟨⟨⟨⟨⟨⟨⟨⟨⟨⟨⟨⟨⟨⟨⟨⟨⟨⟨⟨⟨⟨⟨⟨⟨⟨⟨⟨trivial, (by simp only [dt, df]; omega)⟩, (by simp only [dt, df]; omega)⟩, (by simp only [dt, df]; omega)⟩, (by simp only [dt, df]; omega)⟩, (by simp only [dt, df]; omega)⟩, (by simp only [dt, df]; omega)⟩, ⟨hb, trivial⟩⟩, ⟨hb, trivial⟩⟩, ⟨hb, trivial⟩⟩, ⟨hb, trivial⟩⟩, dr⟩, dr⟩, dr⟩, dr⟩, dr⟩, ⟨hb, trivial⟩⟩, dr⟩, dr⟩, dr⟩, dr⟩, ⟨hb, trivial⟩⟩, dr⟩, dr⟩, ⟨hb, trivial⟩⟩, ⟨hb, trivial⟩⟩, dr⟩, dr⟩, dr⟩, dr⟩, ⟨hb, trivial⟩⟩, dr⟩, dr⟩, ⟨hb, trivial⟩⟩, ⟨hb, trivial⟩⟩, ⟨hb, trivial⟩⟩, dr⟩, dr⟩, dr⟩, dr⟩, dr⟩ rfl (hs _) (VL.cons (.of_flat rfl) (VL.cons (.slice ⟨show (0 : Nat) < 2 by omega, rfl⟩ (Nat.zero_le _) ⟨.inr rfl, fun _ => rfl, fun z hz => by cases hz⟩) (VL.cons (.slice ⟨show (1 : Nat) < 2 by omega, rfl⟩ (Nat.zero_le _) ⟨.inr rfl, fun _ => rfl, fun z hz => by cases hz⟩) VL.nil)))
theorem go_long {p : Prop} {orc : List (Option Bool)} {v1 v2 w1 w2 : Value} (B : Bd) (W : World) (pA pB : PB) (hr : ((mk Try.prog (KL (doesF Zr)) 300).call 4 [.agg B.row.toArray, v1, v2] (St.start 2 .leaf orc)).map (fun r => (r.1, r.2.obl)) = some (.bool true, p)) (hp : p)
    (h1 : VR (Dm (St.start 2 .leaf orc)) (fun i => if i = 0 then pA else pB) v1 w1) (h2 : VR (Dm (St.start 2 .leaf orc)) (fun i => if i = 0 then pA else pB) v2 w2) : Calls Try.prog 4 #[.agg B.row.toArray, w1, w2] W fun e w' => e = .returned (.bool true) ∧ Below W.heap.size W w' :=
  ranG pg KL_ok hr hp rfl (named_hs 2 orc _ W) (VL.cons (.of_flat rfl) (VL.cons h1 (VL.cons h2 VL.nil)))
theorem un {orc : List (Option Bool)} {pA pB : PB} (i b o n c : Nat) (hi : i < 2) (hp : (if i = 0 then pA else pB) = ⟨b, o, 0⟩) (h : n ≤ c) : VR (Dm (St.start 2 .leaf orc)) (fun i => if i = 0 then pA else pB) (.slice (some ⟨i, 0, none⟩) n c) (.slice (some ⟨b, o, none⟩) n c) :=
  VR.unread hi hp rfl h
def Sh (a : Option Addr) (n c : Nat) : Prop := (a = none ∧ n = 0 ∧ c = 0) ∨ ∃ b o, a = some ⟨b, o, none⟩ ∧ n ≤ c ∧ (c : Int) ≤ 9223372036854775807
def Ro (W : World) (a : Option Addr) (n : Nat) : Prop := n = 0 ∨ ∃ (b o : Nat) (S : Scr), a = some ⟨b, o, none⟩ ∧ HasRows W b o n 3 S.row ∧ ∀ i, i < n → wfT (S.n i)
def Bad (B : Bd) : Prop := B.le < 1 ∨ (1 ≤ B.le ∧ B.fi < B.le) ∨ (1 ≤ B.le ∧ B.le ≤ B.fi ∧ B.mo < B.fi) ∨ (1 ≤ B.le ∧ B.le ≤ B.fi ∧ B.fi ≤ B.mo ∧ 65536 < B.mo) ∨ (1 ≤ B.le ∧ B.le ≤ B.fi ∧ B.fi ≤ B.mo ∧ B.mo ≤ 65536 ∧ B.tr < 1) ∨ (1 ≤ B.le ∧ B.le ≤ B.fi ∧ B.fi ≤ B.mo ∧ B.mo ≤ 65536 ∧ 1 ≤ B.tr ∧ 100 < B.tr)
theorem bad_uu (W : World) (B : Bd) (nA cA nB cB bA oA bB oB : Nat) (h : Bad B) (qa : nA ≤ 40) (qb : nB ≤ 40) (ca : nA ≤ cA) (cb : nB ≤ cB) : Calls Try.prog 4 #[.agg B.row.toArray, .slice (some ⟨bA, oA, none⟩) nA cA, .slice (some ⟨bB, oB, none⟩) nB cB] W fun e w' => e = .returned (.bool true) ∧ Below W.heap.size W w' := by
  rcases h with h | h | h | h | h | h
  · exact go_long B W ⟨bA, oA, 0⟩ ⟨bB, oB, 0⟩ (run_uu_b0 B nA cA nB cB) ⟨⟨⟨trivial, (by simp only [dt, df]; omega)⟩, (by simp only [dt, df]; omega)⟩, (by simp only [dt, df]; omega)⟩ (un 0 bA oA nA cA (by omega) rfl ca) (un 1 bB oB nB cB (by omega) rfl cb)
  · exact go_long B W ⟨bA, oA, 0⟩ ⟨bB, oB, 0⟩ (run_uu_b1 B nA cA nB cB) ⟨⟨⟨⟨trivial, (by simp only [dt, df]; omega)⟩, (by simp only [dt, df]; omega)⟩, (by simp only [dt, df]; omega)⟩, (by simp only [dt, df]; omega)⟩ (un 0 bA oA nA cA (by omega) rfl ca) (un 1 bB oB nB cB (by omega) rfl cb)
  · exact go_long B W ⟨bA, oA, 0⟩ ⟨bB, oB, 0⟩ (run_uu_b2 B nA cA nB cB) ⟨⟨⟨⟨⟨trivial, (by simp only [dt, df]; omega)⟩, (by simp only [dt, df]; omega)⟩, (by simp only [dt, df]; omega)⟩, (by simp only [dt, df]; omega)⟩, (by simp only [dt, df]; omega)⟩ (un 0 bA oA nA cA (by omega) rfl ca) (un 1 bB oB nB cB (by omega) rfl cb)
  · exact go_long B W ⟨bA, oA, 0⟩ ⟨bB, oB, 0⟩ (run_uu_b3 B nA cA nB cB) ⟨⟨⟨⟨⟨⟨trivial, (by simp only [dt, df]; omega)⟩, (by simp only [dt, df]; omega)⟩, (by simp only [dt, df]; omega)⟩, (by simp only [dt, df]; omega)⟩, (by simp only [dt, df]; omega)⟩, (by simp only [dt, df]; omega)⟩ (un 0 bA oA nA cA (by omega) rfl ca) (un 1 bB oB nB cB (by omega) rfl cb)
  · exact go_long B W ⟨bA, oA, 0⟩ ⟨bB, oB, 0⟩ (run_uu_b4 B nA cA nB cB) ⟨⟨⟨⟨⟨⟨⟨trivial, (by simp only [dt, df]; omega)⟩, (by simp only [dt, df]; omega)⟩, (by simp only [dt, df]; omega)⟩, (by simp only [dt, df]; omega)⟩, (by simp only [dt, df]; omega)⟩, (by simp only [dt, df]; omega)⟩, (by simp only [dt, df]; omega)⟩ (un 0 bA oA nA cA (by omega) rfl ca) (un 1 bB oB nB cB (by omega) rfl cb)
  · exact go_long B W ⟨bA, oA, 0⟩ ⟨bB, oB, 0⟩ (run_uu_b5 B nA cA nB cB) ⟨⟨⟨⟨⟨⟨⟨⟨trivial, (by simp only [dt, df]; omega)⟩, (by simp only [dt, df]; omega)⟩, (by simp only [dt, df]; omega)⟩, (by simp only [dt, df]; omega)⟩, (by simp only [dt, df]; omega)⟩, (by simp only [dt, df]; omega)⟩, (by simp only [dt, df]; omega)⟩, (by simp only [dt, df]; omega)⟩ (un 0 bA oA nA cA (by omega) rfl ca) (un 1 bB oB nB cB (by omega) rfl cb)
theorem bad_un (W : World) (B : Bd) (nA cA nB cB bA oA bB oB : Nat) (h : Bad B) (qa : nA ≤ 40) (qb : nB ≤ 40) (ca : nA ≤ cA) (cb : nB ≤ cB) : Calls Try.prog 4 #[.agg B.row.toArray, .slice (some ⟨bA, oA, none⟩) nA cA, .slice none 0 0] W fun e w' => e = .returned (.bool true) ∧ Below W.heap.size W w' := by
  rcases h with h | h | h | h | h | h
  · exact go_long B W ⟨bA, oA, 0⟩ ⟨bB, oB, 0⟩ (run_un_b0 B nA cA nB cB) ⟨⟨trivial, (by simp only [dt, df]; omega)⟩, (by simp only [dt, df]; omega)⟩ (un 0 bA oA nA cA (by omega) rfl ca) (.same rfl)
  · exact go_long B W ⟨bA, oA, 0⟩ ⟨bB, oB, 0⟩ (run_un_b1 B nA cA nB cB) ⟨⟨⟨trivial, (by simp only [dt, df]; omega)⟩, (by simp only [dt, df]; omega)⟩, (by simp only [dt, df]; omega)⟩ (un 0 bA oA nA cA (by omega) rfl ca) (.same rfl)
  · exact go_long B W ⟨bA, oA, 0⟩ ⟨bB, oB, 0⟩ (run_un_b2 B nA cA nB cB) ⟨⟨⟨⟨trivial, (by simp only [dt, df]; omega)⟩, (by simp only [dt, df]; omega)⟩, (by simp only [dt, df]; omega)⟩, (by simp only [dt, df]; omega)⟩ (un 0 bA oA nA cA (by omega) rfl ca) (.same rfl)
  · exact go_long B W ⟨bA, oA, 0⟩ ⟨bB, oB, 0⟩ (run_un_b3 B nA cA nB cB) ⟨⟨⟨⟨⟨trivial, (by simp only [dt, df]; omega)⟩, (by simp only [dt, df]; omega)⟩, (by simp only [dt, df]; omega)⟩, (by simp only [dt, df]; omega)⟩, (by simp only [dt, df]; omega)⟩ (un 0 bA oA nA cA (by omega) rfl ca) (.same rfl)
  · exact go_long B W ⟨bA, oA, 0⟩ ⟨bB, oB, 0⟩ (run_un_b4 B nA cA nB cB) ⟨⟨⟨⟨⟨⟨trivial, (by simp only [dt, df]; omega)⟩, (by simp only [dt, df]; omega)⟩, (by simp only [dt, df]; omega)⟩, (by simp only [dt, df]; omega)⟩, (by simp only [dt, df]; omega)⟩, (by simp only [dt, df]; omega)⟩ (un 0 bA oA nA cA (by omega) rfl ca) (.same rfl)
  · exact go_long B W ⟨bA, oA, 0⟩ ⟨bB, oB, 0⟩ (run_un_b5 B nA cA nB cB) ⟨⟨⟨⟨⟨⟨⟨trivial, (by simp only [dt, df]; omega)⟩, (by simp only [dt, df]; omega)⟩, (by simp only [dt, df]; omega)⟩, (by simp only [dt, df]; omega)⟩, (by simp only [dt, df]; omega)⟩, (by simp only [dt, df]; omega)⟩, (by simp only [dt, df]; omega)⟩ (un 0 bA oA nA cA (by omega) rfl ca) (.same rfl)
theorem bad_nu (W : World) (B : Bd) (nA cA nB cB bA oA bB oB : Nat) (h : Bad B) (qa : nA ≤ 40) (qb : nB ≤ 40) (ca : nA ≤ cA) (cb : nB ≤ cB) : Calls Try.prog 4 #[.agg B.row.toArray, .slice none 0 0, .slice (some ⟨bB, oB, none⟩) nB cB] W fun e w' => e = .returned (.bool true) ∧ Below W.heap.size W w' := by
  rcases h with h | h | h | h | h | h
  · exact go_long B W ⟨bA, oA, 0⟩ ⟨bB, oB, 0⟩ (run_nu_b0 B nA cA nB cB) ⟨⟨trivial, (by simp only [dt, df]; omega)⟩, (by simp only [dt, df]; omega)⟩ (.same rfl) (un 1 bB oB nB cB (by omega) rfl cb)
  · exact go_long B W ⟨bA, oA, 0⟩ ⟨bB, oB, 0⟩ (run_nu_b1 B nA cA nB cB) ⟨⟨⟨trivial, (by simp only [dt, df]; omega)⟩, (by simp only [dt, df]; omega)⟩, (by simp only [dt, df]; omega)⟩ (.same rfl) (un 1 bB oB nB cB (by omega) rfl cb)
  · exact go_long B W ⟨bA, oA, 0⟩ ⟨bB, oB, 0⟩ (run_nu_b2 B nA cA nB cB) ⟨⟨⟨⟨trivial, (by simp only [dt, df]; omega)⟩, (by simp only [dt, df]; omega)⟩, (by simp only [dt, df]; omega)⟩, (by simp only [dt, df]; omega)⟩ (.same rfl) (un 1 bB oB nB cB (by omega) rfl cb)
  · exact go_long B W ⟨bA, oA, 0⟩ ⟨bB, oB, 0⟩ (run_nu_b3 B nA cA nB cB) ⟨⟨⟨⟨⟨trivial, (by simp only [dt, df]; omega)⟩, (by simp only [dt, df]; omega)⟩, (by simp only [dt, df]; omega)⟩, (by simp only [dt, df]; omega)⟩, (by simp only [dt, df]; omega)⟩ (.same rfl) (un 1 bB oB nB cB (by omega) rfl cb)
  · exact go_long B W ⟨bA, oA, 0⟩ ⟨bB, oB, 0⟩ (run_nu_b4 B nA cA nB cB) ⟨⟨⟨⟨⟨⟨trivial, (by simp only [dt, df]; omega)⟩, (by simp only [dt, df]; omega)⟩, (by simp only [dt, df]; omega)⟩, (by simp only [dt, df]; omega)⟩, (by simp only [dt, df]; omega)⟩, (by simp only [dt, df]; omega)⟩ (.same rfl) (un 1 bB oB nB cB (by omega) rfl cb)
  · exact go_long B W ⟨bA, oA, 0⟩ ⟨bB, oB, 0⟩ (run_nu_b5 B nA cA nB cB) ⟨⟨⟨⟨⟨⟨⟨trivial, (by simp only [dt, df]; omega)⟩, (by simp only [dt, df]; omega)⟩, (by simp only [dt, df]; omega)⟩, (by simp only [dt, df]; omega)⟩, (by simp only [dt, df]; omega)⟩, (by simp only [dt, df]; omega)⟩, (by simp only [dt, df]; omega)⟩ (.same rfl) (un 1 bB oB nB cB (by omega) rfl cb)
theorem bad_nn (W : World) (B : Bd) (nA cA nB cB bA oA bB oB : Nat) (h : Bad B) (qa : nA ≤ 40) (qb : nB ≤ 40) (ca : nA ≤ cA) (cb : nB ≤ cB) : Calls Try.prog 4 #[.agg B.row.toArray, .slice none 0 0, .slice none 0 0] W fun e w' => e = .returned (.bool true) ∧ Below W.heap.size W w' := by
  rcases h with h | h | h | h | h | h
  · exact go_long B W ⟨bA, oA, 0⟩ ⟨bB, oB, 0⟩ (run_nn_b0 B nA cA nB cB) ⟨trivial, (by simp only [dt, df]; omega)⟩ (.same rfl) (.same rfl)
  · exact go_long B W ⟨bA, oA, 0⟩ ⟨bB, oB, 0⟩ (run_nn_b1 B nA cA nB cB) ⟨⟨trivial, (by simp only [dt, df]; omega)⟩, (by simp only [dt, df]; omega)⟩ (.same rfl) (.same rfl)
  · exact go_long B W ⟨bA, oA, 0⟩ ⟨bB, oB, 0⟩ (run_nn_b2 B nA cA nB cB) ⟨⟨⟨trivial, (by simp only [dt, df]; omega)⟩, (by simp only [dt, df]; omega)⟩, (by simp only [dt, df]; omega)⟩ (.same rfl) (.same rfl)
  · exact go_long B W ⟨bA, oA, 0⟩ ⟨bB, oB, 0⟩ (run_nn_b3 B nA cA nB cB) ⟨⟨⟨⟨trivial, (by simp only [dt, df]; omega)⟩, (by simp only [dt, df]; omega)⟩, (by simp only [dt, df]; omega)⟩, (by simp only [dt, df]; omega)⟩ (.same rfl) (.same rfl)
  · exact go_long B W ⟨bA, oA, 0⟩ ⟨bB, oB, 0⟩ (run_nn_b4 B nA cA nB cB) ⟨⟨⟨⟨⟨trivial, (by simp only [dt, df]; omega)⟩, (by simp only [dt, df]; omega)⟩, (by simp only [dt, df]; omega)⟩, (by simp only [dt, df]; omega)⟩, (by simp only [dt, df]; omega)⟩ (.same rfl) (.same rfl)
  · exact go_long B W ⟨bA, oA, 0⟩ ⟨bB, oB, 0⟩ (run_nn_b5 B nA cA nB cB) ⟨⟨⟨⟨⟨⟨trivial, (by simp only [dt, df]; omega)⟩, (by simp only [dt, df]; omega)⟩, (by simp only [dt, df]; omega)⟩, (by simp only [dt, df]; omega)⟩, (by simp only [dt, df]; omega)⟩, (by simp only [dt, df]; omega)⟩ (.same rfl) (.same rfl)
theorem walkC (W : World) (B : Bd) (a0 : Option Addr) (n0 c0 : Nat) (s0 : Sh a0 n0 c0) (z0 : Ro W a0 n0) (a1 : Option Addr) (n1 c1 : Nat) (s1 : Sh a1 n1 c1) (z1 : Ro W a1 n1) :
    Calls Try.prog 4 #[.agg B.row.toArray, .slice a0 n0 c0, .slice a1 n1 c1] W fun e w' => e = .returned (.bool true) ∧ Below W.heap.size W w' := by
  have S0 : Scr := ⟨fun _ => 0, fun _ => 0, fun _ => false⟩
  have cs : BdOk B ∨ Bad B := by unfold BdOk Bad; omega
  by_cases hA : (n0 : Int) > 40
  · rcases s0 with ⟨rfl, rfl, rfl⟩ | ⟨b, o, rfl, h1, h2⟩
    · simp at hA
    · rcases s1 with ⟨rfl, rfl, rfl⟩ | ⟨b', o', rfl, h1', h2'⟩
      · exact go_long B W ⟨b, o, 0⟩ ⟨0, 0, 0⟩ (run_lA2 B n0 c0 0 0) ⟨trivial, by simpa using hA⟩ (un 0 b o n0 c0 (by omega) rfl h1) (.same rfl)
      · exact go_long B W ⟨b, o, 0⟩ ⟨b', o', 0⟩ (run_lA1 B n0 c0 n1 c1) ⟨trivial, by simpa using hA⟩ (un 0 b o n0 c0 (by omega) rfl h1) (un 1 b' o' n1 c1 (by omega) rfl h1')
  by_cases hB : (n1 : Int) > 40
  · rcases s1 with ⟨rfl, rfl, rfl⟩ | ⟨b', o', rfl, h1', h2'⟩
    · simp at hB
    · rcases s0 with ⟨rfl, rfl, rfl⟩ | ⟨b, o, rfl, h1, h2⟩
      · exact go_long B W ⟨0, 0, 0⟩ ⟨b', o', 0⟩ (run_lB2 B 0 0 n1 c1) ⟨trivial, by simpa using hB⟩ (.same rfl) (un 1 b' o' n1 c1 (by omega) rfl h1')
      · exact go_long B W ⟨b, o, 0⟩ ⟨b', o', 0⟩ (run_lB1 B n0 c0 n1 c1) ⟨⟨trivial, by simpa using hA⟩, by simpa using hB⟩ (un 0 b o n0 c0 (by omega) rfl h1) (un 1 b' o' n1 c1 (by omega) rfl h1')
  rcases cs with hBd | bad
  · rcases s0 with ⟨rfl, rfl, rfl⟩ | ⟨b, o, rfl, h1, h2⟩
    · rcases s1 with ⟨rfl, rfl, rfl⟩ | ⟨b', o', rfl, h1', h2'⟩
      · exact go_nn W B S0 S0 0 0 0 0 0 0 0 0 hBd
      · rcases Nat.eq_zero_or_pos n1 with rfl | hn
        · exact go_nz W B S0 S0 0 0 0 c1 0 0 b' o' hBd
        · rcases z1 with z1 | ⟨b2, o2, S, e, hr, wf⟩
          · omega
          · cases e
            exact go_nr W B S0 S 0 0 n1 c1 0 0 b' o' hBd hr hn (by omega) h1' wf
    · rcases Nat.eq_zero_or_pos n0 with rfl | hm
      · rcases s1 with ⟨rfl, rfl, rfl⟩ | ⟨b', o', rfl, h1', h2'⟩
        · exact go_zn W B S0 S0 0 c0 0 0 b o 0 0 hBd
        · rcases Nat.eq_zero_or_pos n1 with rfl | hn
          · exact go_zz W B S0 S0 0 c0 0 c1 b o b' o' hBd
          · rcases z1 with z1 | ⟨b2, o2, S, e, hr, wf⟩
            · omega
            · cases e
              exact go_zr W B S0 S 0 c0 n1 c1 b o b' o' hBd hr hn (by omega) h1' wf
      · rcases z0 with z0 | ⟨b3, o3, S3, e3, hr3, wf3⟩
        · omega
        · cases e3
          rcases s1 with ⟨rfl, rfl, rfl⟩ | ⟨b', o', rfl, h1', h2'⟩
          · exact go_rn W B S3 S0 n0 c0 0 0 b o 0 0 hBd hr3 hm (by omega) h1 wf3
          · rcases Nat.eq_zero_or_pos n1 with rfl | hn
            · exact go_rz W B S3 S0 n0 c0 0 c1 b o b' o' hBd hr3 hm (by omega) h1 wf3
            · rcases z1 with z1 | ⟨b2, o2, S, e, hr, wf⟩
              · omega
              · cases e
                exact go_rr W B S3 S n0 c0 n1 c1 b o b' o' hBd hr3 hm (by omega) h1 wf3 hr hn (by omega) h1' wf
  · rcases s0 with ⟨rfl, rfl, rfl⟩ | ⟨b, o, rfl, h1, h2⟩
    · rcases s1 with ⟨rfl, rfl, rfl⟩ | ⟨b', o', rfl, h1', h2'⟩
      · exact bad_nn W B 0 0 0 0 0 0 0 0 bad (by omega) (by omega) (by omega) (by omega)
      · exact bad_nu W B 0 0 n1 c1 0 0 b' o' bad (by omega) (by omega) (by omega) h1'
    · rcases s1 with ⟨rfl, rfl, rfl⟩ | ⟨b', o', rfl, h1', h2'⟩
      · exact bad_un W B n0 c0 0 0 b o 0 0 bad (by omega) (by omega) h1 (by omega)
      · exact bad_uu W B n0 c0 n1 c1 b o b' o' bad (by omega) (by omega) h1 h1'

end rn
end Go.Proofs.Ythgiflgofdmamab
