/- Read off the code by the clean reading. -/
import Derived.Test.YthgiflgofdmamabClnRb
import Derived.Test.YthgiflgofdmamabRows
import Derived.WalkKit
import Derived.ProofKit
import Derived.Below
import Derived.IntWalk
import Derived.Test.YthgiflgofdmamabClnQ
import Derived.Test.YthgiflgofdmamabOpen
set_option linter.unusedVariables false
set_option linter.unusedSimpArgs false
set_option linter.deprecated false
set_option maxRecDepth 100000
namespace Go.Proofs.Ythgiflgofdmamab
open Go.ChangeShapes Go.WideShapes Go.ChangeAt Go.RowKit Go.Cln
namespace rn
set_option linter.unusedVariables false
set_option linter.unusedSimpArgs false

theorem lw_bd (le mo sm sp : Int) (h : le ≤ mo) : le ≤ lwI le mo sm sp ∧ lwI le mo sm sp ≤ mo := by
  unfold lwI
  split
  · omega
  · split <;> omega
def Keeps (c d : Clk) : Prop := Gd d ∧ d.fi = c.fi ∧ d.le = c.le ∧ d.mo = c.mo ∧ d.tr = c.tr
theorem keeps_refl {c : Clk} (h : Gd c) : Keeps c c := ⟨h, rfl, rfl, rfl, rfl⟩
theorem sam_keeps (c : Clk) (t : Int) (h : Gd c) : Keeps c (sampleF c t) := by
  unfold sampleF
  split
  · exact keeps_refl h
  split
  · exact keeps_refl h
  rename_i h1 h2
  obtain ⟨q0, q1, q2, q3, q4, q5, q6, q7, q8, q9, q10, q11, q12, q13, q14, q15, q16⟩ := h
  have d0 := div8 c.sm q6
  have d1 := div4 c.sp q8
  split
  · have lb := lw_bd c.le c.mo (smN c.sm t) (spN c.sm c.sp t) (by omega)
    refine ⟨⟨q0, q1, q2, q3, q4, q5, ?_, ?_, ?_, ?_, lb.1, lb.2, q12, q13, q14, q15, q16⟩, rfl, rfl, rfl, rfl⟩
    · simp only [smN]; omega
    · simp only [smN]; omega
    · simp only [spN]; split <;> omega
    · simp only [spN]; split <;> omega
  · have lb := lw_bd c.le c.mo (8 * t) (2 * t) (by omega)
    exact ⟨⟨q0, q1, q2, q3, q4, q5, by simp only; omega, by simp only; omega, by simp only; omega, by simp only; omega, lb.1, lb.2, q12, q13, q14, q15, q16⟩, rfl, rfl, rfl, rfl⟩
theorem sta_keeps (c : Clk) (t : Int) (h : Gd c) : Keeps c (startF c t) := by
  unfold startF
  split
  · exact keeps_refl h
  split
  · exact keeps_refl h
  split
  · exact keeps_refl h
  obtain ⟨q0, q1, q2, q3, q4, q5, q6, q7, q8, q9, q10, q11, q12, q13, q14, q15, q16⟩ := h
  exact ⟨⟨q0, q1, q2, q3, q4, q5, q6, q7, q8, q9, q10, q11, by simp only; omega, by simp only; omega, by simp only; omega, by simp only; omega, .inl rfl⟩, rfl, rfl, rfl, rfl⟩
theorem sto_keeps (c : Clk) (h : Gd c) : Keeps c (stopF c) := by
  obtain ⟨q0, q1, q2, q3, q4, q5, q6, q7, q8, q9, q10, q11, q12, q13, q14, q15, q16⟩ := h
  have lb := lw_bd c.le c.mo c.sm c.sp (by omega)
  refine ⟨⟨q0, q1, q2, q3, q4, q5, q6, q7, q8, q9, ?_, ?_, Int.le_refl _, by simp only [stopF]; omega, Int.le_refl _, by simp only [stopF]; omega, .inr rfl⟩, rfl, rfl, rfl, rfl⟩ <;> simp only [stopF] <;> split <;> omega
theorem lat_keeps (c : Clk) (t : Int) (h : Gd c) : Keeps c (lateF c t) := by
  unfold lateF
  split
  · exact keeps_refl h
  split
  · exact keeps_refl h
  split
  · exact keeps_refl h
  split
  · split
    · split
      · obtain ⟨q0, q1, q2, q3, q4, q5, q6, q7, q8, q9, q10, q11, q12, q13, q14, q15, q16⟩ := h
        exact ⟨⟨q0, q1, q2, q3, q4, q5, q6, q7, q8, q9, q10, q11, q12, q13, Int.le_refl _, by simp only; omega, .inr rfl⟩, rfl, rfl, rfl, rfl⟩
      · rename_i hru _ _
        obtain ⟨q0, q1, q2, q3, q4, q5, q6, q7, q8, q9, q10, q11, q12, q13, q14, q15, q16⟩ := h
        exact ⟨⟨q0, q1, q2, q3, q4, q5, q6, q7, q8, q9, by simp only; split <;> omega, by simp only; split <;> omega, by simp only; omega, by simp only; omega, by simp only; omega, by simp only; omega, .inl hru⟩, rfl, rfl, rfl, rfl⟩
    · exact keeps_refl h
  · exact keeps_refl h
theorem does_keeps (c : Clk) (k n : Int) (b : Bool) (h : Gd c) : Keeps c (doesF Zr c k n b) := by
  unfold doesF
  split
  · exact sam_keeps c n h
  split
  · exact sta_keeps c _ h
  split
  · exact sto_keeps c h
  split
  · exact lat_keeps c _ h
  · exact keeps_refl h
theorem aq_eq (i : Nat) : aq i = i := by unfold aq ad; omega
theorem nx_eq (S : Scr) (w : Clk) (i : Nat) : nx (doesF Zr) S w i = doesF Zr w (S.k i) (S.n i) (S.b i) := by unfold nx; rw [aq_eq]
noncomputable def stC (S : Scr) (B : Bd) : Nat → Clk
  | 0 => newC B
  | i + 1 => doesF Zr (stC S B i) (S.k i) (S.n i) (S.b i)
def BdOk (B : Bd) : Prop := 1 ≤ B.le ∧ B.le ≤ B.fi ∧ B.fi ≤ B.mo ∧ B.mo ≤ 65536 ∧ 1 ≤ B.tr ∧ B.tr ≤ 100
def Of (B : Bd) (c : Clk) : Prop := Gd c ∧ c.fi = B.fi ∧ c.le = B.le ∧ c.mo = B.mo ∧ c.tr = B.tr
theorem stC_of (S : Scr) (B : Bd) (h : BdOk B) : ∀ i, Of B (stC S B i)
  | 0 => by
    obtain ⟨h0, h1, h2, h3, h4, h5⟩ := h
    exact ⟨⟨h0, h1, h2, h3, h4, h5, by simp [stC, newC], by simp [stC, newC], by simp [stC, newC], by simp [stC, newC], h1, by simp only [stC, newC]; omega, by simp [stC, newC], by simp only [stC, newC]; omega, by simp [stC, newC], by simp [stC, newC], .inr rfl⟩, rfl, rfl, rfl, rfl⟩
  | i + 1 => by
    obtain ⟨hg, e0, e1, e2, e3⟩ := stC_of S B h i
    obtain ⟨kg, k0, k1, k2, k3⟩ := does_keeps (stC S B i) (S.k i) (S.n i) (S.b i) hg
    exact ⟨kg, k0.trans e0, k1.trans e1, k2.trans e2, k3.trans e3⟩
theorem pB_ok (S : Scr) (B : Bd) (n i : Nat) (w : Clk) (hi : i < n) (h80 : n ≤ 80) (hw : Of B w) (wf : wfT (S.n i)) : pB (doesF Zr) S B n w i := by
  obtain ⟨hg, e0, e1, e2, e3⟩ := hw
  obtain ⟨kg, k0, k1, k2, k3⟩ := does_keeps w (S.k i) (S.n i) (S.b i) hg
  rw [← nx_eq] at kg k0 k1 k2 k3
  obtain ⟨q0, q1, q2, q3, q4, q5, q6, q7, q8, q9, q10, q11, q12, q13, q14, q15, q16⟩ := id kg
  have ei : aq i = i := aq_eq i
  have h0 : c0 (doesF Zr) S B n w i := by
    unfold c0
    first | trivial | (simp only [decide_eq_true_eq, decide_eq_false_iff_not, IntKind.wrap_i64]; omega) | (simp; done) | (unfold ad; omega) | (rw [ei]; exact ⟨rfl, hg, wf⟩) | (refine ⟨?_, trivial⟩; omega) | omega
  have h1 : c1 (doesF Zr) S B n w i := by
    unfold c1
    first | trivial | (simp only [decide_eq_true_eq, decide_eq_false_iff_not, IntKind.wrap_i64]; omega) | (simp; done) | (unfold ad; omega) | (rw [ei]; exact ⟨rfl, hg, wf⟩) | (refine ⟨?_, trivial⟩; omega) | omega
  have h2 : c2 (doesF Zr) S B n w i := by
    unfold c2
    first | trivial | (simp only [decide_eq_true_eq, decide_eq_false_iff_not, IntKind.wrap_i64]; omega) | (simp; done) | (unfold ad; omega) | (rw [ei]; exact ⟨rfl, hg, wf⟩) | (refine ⟨?_, trivial⟩; omega) | omega
  have h3 : c3 (doesF Zr) S B n w i := by
    unfold c3
    first | trivial | (simp only [decide_eq_true_eq, decide_eq_false_iff_not, IntKind.wrap_i64]; omega) | (simp; done) | (unfold ad; omega) | (rw [ei]; exact ⟨rfl, hg, wf⟩) | (refine ⟨?_, trivial⟩; omega) | omega
  have h4 : c4 (doesF Zr) S B n w i := by
    unfold c4
    first | trivial | (simp only [decide_eq_true_eq, decide_eq_false_iff_not, IntKind.wrap_i64]; omega) | (simp; done) | (unfold ad; omega) | (rw [ei]; exact ⟨rfl, hg, wf⟩) | (refine ⟨?_, trivial⟩; omega) | omega
  have h5 : c5 (doesF Zr) S B n w i := by
    unfold c5
    first | trivial | (simp only [decide_eq_true_eq, decide_eq_false_iff_not, IntKind.wrap_i64]; omega) | (simp; done) | (unfold ad; omega) | (rw [ei]; exact ⟨rfl, hg, wf⟩) | (refine ⟨?_, trivial⟩; omega) | omega
  have h6 : c6 (doesF Zr) S B n w i := by
    unfold c6
    first | trivial | (simp only [decide_eq_true_eq, decide_eq_false_iff_not, IntKind.wrap_i64]; omega) | (simp; done) | (unfold ad; omega) | (rw [ei]; exact ⟨rfl, hg, wf⟩) | (refine ⟨?_, trivial⟩; omega) | omega
  have h7 : c7 (doesF Zr) S B n w i := by
    unfold c7
    first | trivial | (simp only [decide_eq_true_eq, decide_eq_false_iff_not, IntKind.wrap_i64]; omega) | (simp; done) | (unfold ad; omega) | (rw [ei]; exact ⟨rfl, hg, wf⟩) | (refine ⟨?_, trivial⟩; omega) | omega
  have h8 : c8 (doesF Zr) S B n w i := by
    unfold c8
    first | trivial | (simp only [decide_eq_true_eq, decide_eq_false_iff_not, IntKind.wrap_i64]; omega) | (simp; done) | (unfold ad; omega) | (rw [ei]; exact ⟨rfl, hg, wf⟩) | (refine ⟨?_, trivial⟩; omega) | omega
  have h9 : c9 (doesF Zr) S B n w i := by
    unfold c9
    first | trivial | (simp only [decide_eq_true_eq, decide_eq_false_iff_not, IntKind.wrap_i64]; omega) | (simp; done) | (unfold ad; omega) | (rw [ei]; exact ⟨rfl, hg, wf⟩) | (refine ⟨?_, trivial⟩; omega) | omega
  have h10 : c10 (doesF Zr) S B n w i := by
    unfold c10
    first | trivial | (simp only [decide_eq_true_eq, decide_eq_false_iff_not, IntKind.wrap_i64]; omega) | (simp; done) | (unfold ad; omega) | (rw [ei]; exact ⟨rfl, hg, wf⟩) | (refine ⟨?_, trivial⟩; omega) | omega
  have h11 : c11 (doesF Zr) S B n w i := by
    unfold c11
    first | trivial | (simp only [decide_eq_true_eq, decide_eq_false_iff_not, IntKind.wrap_i64]; omega) | (simp; done) | (unfold ad; omega) | (rw [ei]; exact ⟨rfl, hg, wf⟩) | (refine ⟨?_, trivial⟩; omega) | omega
  exact ⟨⟨⟨⟨⟨⟨⟨⟨⟨⟨⟨⟨⟨⟨⟨⟨⟨⟨⟨⟨⟨⟨⟨⟨⟨⟨⟨⟨⟨⟨⟨⟨⟨⟨⟨⟨⟨⟨⟨⟨⟨⟨trivial, h0⟩, h1⟩, h2⟩, h3⟩, h4⟩, h5⟩, h5⟩, h5⟩, h5⟩, h4⟩, h5⟩, h5⟩, h6⟩, h6⟩, h6⟩, h6⟩, h4⟩, h6⟩, h6⟩, h7⟩, h7⟩, h7⟩, h7⟩, h4⟩, h7⟩, h7⟩, h8⟩, h8⟩, h8⟩, h8⟩, h4⟩, h8⟩, h8⟩, h9⟩, h9⟩, h9⟩, h9⟩, h4⟩, h9⟩, h9⟩, h10⟩, h11⟩
theorem pX_ok (n : Nat) : pX n n := by unfold pX; simp
theorem loopOk (S : Scr) (B : Bd) (n c : Nat) (hn : 0 < n) (h80 : n ≤ 80) (hB : BdOk B) (wf : ∀ i, i < n → wfT (S.n i)) (rd : Option Nat) : CodeOk Try.prog rd (.loop body) (mkL S B n (newC B) (tE B n c 0)) (.exit 0) (mkL S B n (stC S B n) (tR B n c n)) := by
  refine CodeOk.of_step (Step.loop (fun k x => (k = n + 1 ∧ x = mkL S B n (newC B) (tE B n c 0)) ∨ ∃ i : Nat, 1 ≤ i ∧ i ≤ n ∧ k = n - i ∧ x = mkL S B n (stC S B i) (tR B n c i)) ?_ (n + 1) _ (.inl ⟨rfl, rfl⟩))
  rintro k x (⟨rfl, rfl⟩ | ⟨i, h1, h2, rfl, rfl⟩)
  · refine (stepE S B n c (newC B) (newC B) (tE B n c 0) 0 rd (pB_ok S B n 0 _ hn h80 (stC_of S B hB 0) (wf 0 hn))).mono ?_
    rintro e s ⟨rfl, rfl⟩
    refine .inl ⟨rfl, n - 1, by omega, .inr ⟨1, by omega, by omega, rfl, ?_⟩⟩
    rw [nx_eq]; rfl
  · by_cases e : i = n
    · subst e
      refine (stepX S B i c (newC B) (stC S B i) (tE B i c 0) i rd (pX_ok i)).mono ?_
      rintro e s ⟨rfl, rfl⟩
      exact .inr ⟨(by intro x; cases x), rfl, rfl⟩
    · have hlt : i < n := by omega
      refine (stepR S B n c (newC B) (stC S B i) (tE B n c 0) i rd (pB_ok S B n i _ hlt h80 (stC_of S B hB i) (wf i hlt))).mono ?_
      rintro e s ⟨rfl, rfl⟩
      refine .inl ⟨rfl, n - (i + 1), by omega, .inr ⟨i + 1, by omega, by omega, rfl, ?_⟩⟩
      rw [nx_eq]; rfl

end rn
end Go.Proofs.Ythgiflgofdmamab
namespace Go.Proofs.Ythgiflgofdmamab
open Go.ChangeShapes Go.WideShapes Go.ChangeAt Go.RowKit Go.Cln
namespace rn
set_option linter.unusedVariables false
set_option linter.unusedSimpArgs false

open Go.Cln
noncomputable def LM (S : Scr) (B : Bd) (n c : Nat) (f : FuncId) (s : St) : Option Go.Cln.Ask := if f == 3 then some ⟨⟨[21], [], []⟩, .exit 0, fun _ => mkL S B n (stC S B n) (tR B n c n)⟩ else none
noncomputable def KM (S : Scr) (B : Bd) (n c : Nat) : Given := Given.asking (KL (doesF Zr)) Try.prog (LM S B n c)
theorem runMain (S : Scr) (B : Bd) (n c : Nat) : ((mk Try.prog (KM S B n c) 300).call 3 [.agg B.row.toArray, sl n c] (St.start 1 (rowsHeap n 3 S.row) [some false, none, none, none, none, none, some false, none, none, none, none, none, some false, none, none, none, none, none, some false, none, none, none, none, none, some false, none, none, none, none, none, none, none, none, none, none, none, some false, none, none, none, none, none, some false, none, none, none, none, none, some true, none, none, none, none, none, some true, none, none, none, none, none, some true, none, none, none, some true, none, none, none, some true, none, none, none, some false])).map (fun r => (r.1, r.2.obl)) =
    some (.bool true, (((((((((((((True ∧ decide ((n : Int) > 80) = false) ∧ decide (B.le < 1) = false) ∧ decide (B.fi < B.le) = false) ∧ decide (B.mo < B.fi) = false) ∧ decide (65536 < B.mo) = false) ∧ decide (B.tr < 1) = false) ∧ decide (100 < B.tr) = false) ∧ decide (1 ≤ B.le) = true) ∧ decide (B.le ≤ B.fi) = true) ∧ decide (B.fi ≤ B.mo) = true) ∧ decide (B.mo ≤ 65536) = true) ∧ decide (1 ≤ B.tr) = true) ∧ (!(decide (B.tr ≤ 100))) = false) ∧ ∀ rd, CodeOk Try.prog rd (.loop body) (mkL S B n (newC B) (tE B n c 0)) (.exit 0) (mkL S B n (stC S B n) (tR B n c n))) := by kernel_rfl
theorem runLong (B : Bd) (n c : Nat) : ((mk Try.prog (KL (doesF Zr)) 300).call 3 [.agg B.row.toArray, sl n c] (St.start 1 .leaf [some true])).map (fun r => (r.1, r.2.obl)) = some (.bool true, (True ∧ decide ((n : Int) > 80) = true)) := by kernel_rfl
theorem runZero (B : Bd) (c : Nat) : ((mk Try.prog (KL (doesF Zr)) 300).call 3 [.agg B.row.toArray, sl 0 c] (St.start 1 .leaf [none, none, none, none, none, none, some false, none, none, none, none, none, some false, none, none, none, none, none, some false, none, none, none, none, none, some false, none, none, none, none, none, none, none, none, none, none, none, some false, none, none, none, none, none, some false, none, none, none, none, none, some true, none, none, none, none, none, some true, none, none, none, none, none, some true, none, none, none, some true, none, none, none, some true, none, none, none, some false])).map (fun r => (r.1, r.2.obl)) = some (.bool true, ((((((((((((True ∧ decide (B.le < 1) = false) ∧ decide (B.fi < B.le) = false) ∧ decide (B.mo < B.fi) = false) ∧ decide (65536 < B.mo) = false) ∧ decide (B.tr < 1) = false) ∧ decide (100 < B.tr) = false) ∧ decide (1 ≤ B.le) = true) ∧ decide (B.le ≤ B.fi) = true) ∧ decide (B.fi ≤ B.mo) = true) ∧ decide (B.mo ≤ 65536) = true) ∧ decide (1 ≤ B.tr) = true) ∧ (!(decide (B.tr ≤ 100))) = false)) := by kernel_rfl
theorem runNil (B : Bd) : ((mk Try.prog (KL (doesF Zr)) 300).call 3 [.agg B.row.toArray, .slice none 0 0] (St.start 0 .leaf [none, none, none, none, none, none, some false, none, none, none, none, none, some false, none, none, none, none, none, some false, none, none, none, none, none, some false, none, none, none, none, none, none, none, none, none, none, none, some false, none, none, none, none, none, some false, none, none, none, none, none, some true, none, none, none, none, none, some true, none, none, none, none, none, some true, none, none, none, some true, none, none, none, some true, none, none, none, some false])).map (fun r => (r.1, r.2.obl)) = some (.bool true, ((((((((((((True ∧ decide (B.le < 1) = false) ∧ decide (B.fi < B.le) = false) ∧ decide (B.mo < B.fi) = false) ∧ decide (65536 < B.mo) = false) ∧ decide (B.tr < 1) = false) ∧ decide (100 < B.tr) = false) ∧ decide (1 ≤ B.le) = true) ∧ decide (B.le ≤ B.fi) = true) ∧ decide (B.fi ≤ B.mo) = true) ∧ decide (B.mo ≤ 65536) = true) ∧ decide (1 ≤ B.tr) = true) ∧ (!(decide (B.tr ≤ 100))) = false)) := by kernel_rfl
theorem runB0 (B : Bd) (n c : Nat) : ((mk Try.prog (KL (doesF Zr)) 300).call 3 [.agg B.row.toArray, sl n c] (St.start 1 .leaf [some false, none, none, none, none, none, some true, none, none, none, none, none, none, none, some false])).map (fun r => (r.1, r.2.obl)) = some (.bool true, (((True ∧ decide ((n : Int) > 80) = false) ∧ decide (B.le < 1) = true) ∧ decide (1 ≤ B.le) = false)) := by kernel_rfl
theorem runC0 (B : Bd) : ((mk Try.prog (KL (doesF Zr)) 300).call 3 [.agg B.row.toArray, .slice none 0 0] (St.start 0 .leaf [none, none, none, none, none, none, some true, none, none, none, none, none, none, none, some false])).map (fun r => (r.1, r.2.obl)) = some (.bool true, ((True ∧ decide (B.le < 1) = true) ∧ decide (1 ≤ B.le) = false)) := by kernel_rfl
theorem runB1 (B : Bd) (n c : Nat) : ((mk Try.prog (KL (doesF Zr)) 300).call 3 [.agg B.row.toArray, sl n c] (St.start 1 .leaf [some false, none, none, none, none, none, some false, none, none, none, none, none, some true, none, none, none, none, none, none, none, some true, none, none, none, none, none, some false])).map (fun r => (r.1, r.2.obl)) = some (.bool true, (((((True ∧ decide ((n : Int) > 80) = false) ∧ decide (B.le < 1) = false) ∧ decide (B.fi < B.le) = true) ∧ decide (1 ≤ B.le) = true) ∧ decide (B.le ≤ B.fi) = false)) := by kernel_rfl
theorem runC1 (B : Bd) : ((mk Try.prog (KL (doesF Zr)) 300).call 3 [.agg B.row.toArray, .slice none 0 0] (St.start 0 .leaf [none, none, none, none, none, none, some false, none, none, none, none, none, some true, none, none, none, none, none, none, none, some true, none, none, none, none, none, some false])).map (fun r => (r.1, r.2.obl)) = some (.bool true, ((((True ∧ decide (B.le < 1) = false) ∧ decide (B.fi < B.le) = true) ∧ decide (1 ≤ B.le) = true) ∧ decide (B.le ≤ B.fi) = false)) := by kernel_rfl
theorem runB2 (B : Bd) (n c : Nat) : ((mk Try.prog (KL (doesF Zr)) 300).call 3 [.agg B.row.toArray, sl n c] (St.start 1 .leaf [some false, none, none, none, none, none, some false, none, none, none, none, none, some false, none, none, none, none, none, some true, none, none, none, none, none, none, none, some true, none, none, none, none, none, some true, none, none, none, none, none, some false])).map (fun r => (r.1, r.2.obl)) = some (.bool true, (((((((True ∧ decide ((n : Int) > 80) = false) ∧ decide (B.le < 1) = false) ∧ decide (B.fi < B.le) = false) ∧ decide (B.mo < B.fi) = true) ∧ decide (1 ≤ B.le) = true) ∧ decide (B.le ≤ B.fi) = true) ∧ decide (B.fi ≤ B.mo) = false)) := by kernel_rfl
theorem runC2 (B : Bd) : ((mk Try.prog (KL (doesF Zr)) 300).call 3 [.agg B.row.toArray, .slice none 0 0] (St.start 0 .leaf [none, none, none, none, none, none, some false, none, none, none, none, none, some false, none, none, none, none, none, some true, none, none, none, none, none, none, none, some true, none, none, none, none, none, some true, none, none, none, none, none, some false])).map (fun r => (r.1, r.2.obl)) = some (.bool true, ((((((True ∧ decide (B.le < 1) = false) ∧ decide (B.fi < B.le) = false) ∧ decide (B.mo < B.fi) = true) ∧ decide (1 ≤ B.le) = true) ∧ decide (B.le ≤ B.fi) = true) ∧ decide (B.fi ≤ B.mo) = false)) := by kernel_rfl
theorem runB3 (B : Bd) (n c : Nat) : ((mk Try.prog (KL (doesF Zr)) 300).call 3 [.agg B.row.toArray, sl n c] (St.start 1 .leaf [some false, none, none, none, none, none, some false, none, none, none, none, none, some false, none, none, none, none, none, some false, none, none, none, none, none, some true, none, none, none, none, none, none, none, some true, none, none, none, none, none, some true, none, none, none, none, none, some true, none, none, none, some false])).map (fun r => (r.1, r.2.obl)) = some (.bool true, (((((((((True ∧ decide ((n : Int) > 80) = false) ∧ decide (B.le < 1) = false) ∧ decide (B.fi < B.le) = false) ∧ decide (B.mo < B.fi) = false) ∧ decide (65536 < B.mo) = true) ∧ decide (1 ≤ B.le) = true) ∧ decide (B.le ≤ B.fi) = true) ∧ decide (B.fi ≤ B.mo) = true) ∧ decide (B.mo ≤ 65536) = false)) := by kernel_rfl
theorem runC3 (B : Bd) : ((mk Try.prog (KL (doesF Zr)) 300).call 3 [.agg B.row.toArray, .slice none 0 0] (St.start 0 .leaf [none, none, none, none, none, none, some false, none, none, none, none, none, some false, none, none, none, none, none, some false, none, none, none, none, none, some true, none, none, none, none, none, none, none, some true, none, none, none, none, none, some true, none, none, none, none, none, some true, none, none, none, some false])).map (fun r => (r.1, r.2.obl)) = some (.bool true, ((((((((True ∧ decide (B.le < 1) = false) ∧ decide (B.fi < B.le) = false) ∧ decide (B.mo < B.fi) = false) ∧ decide (65536 < B.mo) = true) ∧ decide (1 ≤ B.le) = true) ∧ decide (B.le ≤ B.fi) = true) ∧ decide (B.fi ≤ B.mo) = true) ∧ decide (B.mo ≤ 65536) = false)) := by kernel_rfl
theorem runB4 (B : Bd) (n c : Nat) : ((mk Try.prog (KL (doesF Zr)) 300).call 3 [.agg B.row.toArray, sl n c] (St.start 1 .leaf [some false, none, none, none, none, none, some false, none, none, none, none, none, some false, none, none, none, none, none, some false, none, none, none, none, none, some false, none, none, none, none, none, none, none, none, none, none, none, some true, none, none, none, some true, none, none, none, none, none, some true, none, none, none, none, none, some true, none, none, none, some true, none, none, none, some false])).map (fun r => (r.1, r.2.obl)) = some (.bool true, (((((((((((True ∧ decide ((n : Int) > 80) = false) ∧ decide (B.le < 1) = false) ∧ decide (B.fi < B.le) = false) ∧ decide (B.mo < B.fi) = false) ∧ decide (65536 < B.mo) = false) ∧ decide (B.tr < 1) = true) ∧ decide (1 ≤ B.le) = true) ∧ decide (B.le ≤ B.fi) = true) ∧ decide (B.fi ≤ B.mo) = true) ∧ decide (B.mo ≤ 65536) = true) ∧ decide (1 ≤ B.tr) = false)) := by kernel_rfl
theorem runC4 (B : Bd) : ((mk Try.prog (KL (doesF Zr)) 300).call 3 [.agg B.row.toArray, .slice none 0 0] (St.start 0 .leaf [none, none, none, none, none, none, some false, none, none, none, none, none, some false, none, none, none, none, none, some false, none, none, none, none, none, some false, none, none, none, none, none, none, none, none, none, none, none, some true, none, none, none, some true, none, none, none, none, none, some true, none, none, none, none, none, some true, none, none, none, some true, none, none, none, some false])).map (fun r => (r.1, r.2.obl)) = some (.bool true, ((((((((((True ∧ decide (B.le < 1) = false) ∧ decide (B.fi < B.le) = false) ∧ decide (B.mo < B.fi) = false) ∧ decide (65536 < B.mo) = false) ∧ decide (B.tr < 1) = true) ∧ decide (1 ≤ B.le) = true) ∧ decide (B.le ≤ B.fi) = true) ∧ decide (B.fi ≤ B.mo) = true) ∧ decide (B.mo ≤ 65536) = true) ∧ decide (1 ≤ B.tr) = false)) := by kernel_rfl
theorem runB5 (B : Bd) (n c : Nat) : ((mk Try.prog (KL (doesF Zr)) 300).call 3 [.agg B.row.toArray, sl n c] (St.start 1 .leaf [some false, none, none, none, none, none, some false, none, none, none, none, none, some false, none, none, none, none, none, some false, none, none, none, none, none, some false, none, none, none, none, none, none, none, none, none, none, none, some false, none, none, none, none, none, some true, none, none, none, some true, none, none, none, none, none, some true, none, none, none, none, none, some true, none, none, none, some true, none, none, none, some true, none, none, none, some true])).map (fun r => (r.1, r.2.obl)) = some (.bool true, (((((((((((((True ∧ decide ((n : Int) > 80) = false) ∧ decide (B.le < 1) = false) ∧ decide (B.fi < B.le) = false) ∧ decide (B.mo < B.fi) = false) ∧ decide (65536 < B.mo) = false) ∧ decide (B.tr < 1) = false) ∧ decide (100 < B.tr) = true) ∧ decide (1 ≤ B.le) = true) ∧ decide (B.le ≤ B.fi) = true) ∧ decide (B.fi ≤ B.mo) = true) ∧ decide (B.mo ≤ 65536) = true) ∧ decide (1 ≤ B.tr) = true) ∧ (!(decide (B.tr ≤ 100))) = true)) := by kernel_rfl
theorem runC5 (B : Bd) : ((mk Try.prog (KL (doesF Zr)) 300).call 3 [.agg B.row.toArray, .slice none 0 0] (St.start 0 .leaf [none, none, none, none, none, none, some false, none, none, none, none, none, some false, none, none, none, none, none, some false, none, none, none, none, none, some false, none, none, none, none, none, none, none, none, none, none, none, some false, none, none, none, none, none, some true, none, none, none, some true, none, none, none, none, none, some true, none, none, none, none, none, some true, none, none, none, some true, none, none, none, some true, none, none, none, some true])).map (fun r => (r.1, r.2.obl)) = some (.bool true, ((((((((((((True ∧ decide (B.le < 1) = false) ∧ decide (B.fi < B.le) = false) ∧ decide (B.mo < B.fi) = false) ∧ decide (65536 < B.mo) = false) ∧ decide (B.tr < 1) = false) ∧ decide (100 < B.tr) = true) ∧ decide (1 ≤ B.le) = true) ∧ decide (B.le ≤ B.fi) = true) ∧ decide (B.fi ≤ B.mo) = true) ∧ decide (B.mo ≤ 65536) = true) ∧ decide (1 ≤ B.tr) = true) ∧ (!(decide (B.tr ≤ 100))) = true)) := by kernel_rfl

section
variable {H : Type} {enc : TypeId × Value → H} {w : World} {base : Nat} {spare : Nat → Bool} {held : Bool}
theorem field1 {P : Program} {f : Field} {cs : List Value} {n j : Nat} {y : DataW H × List MemPlace} {k : IntKind} (hu : P.underlying f.type = some (.int k)) (ho : f.offset = j) (hc : P.cellsOf f.type = 1)
    (h : DataW.trod enc P w base spare held n f.type ((cs.drop f.offset).take (P.cellsOf f.type)) = some y) : ∃ z, cs[j]? = some (.int k z) ∧ (Lit.int k z).wf = true := by
  obtain ⟨z, q, _, hw⟩ := DataW.trod_int hu h
  rw [ho, hc] at q
  refine ⟨z, ?_, hw⟩
  have : ((cs.drop j).take 1)[0]? = some (.int k z) := by rw [q]; rfl
  rw [List.getElem?_take, if_pos (by omega), List.getElem?_drop] at this
  simpa using this
theorem fieldB {P : Program} {f : Field} {cs : List Value} {n j : Nat} {y : DataW H × List MemPlace} (hu : P.underlying f.type = some .bool) (ho : f.offset = j) (hc : P.cellsOf f.type = 1)
    (h : DataW.trod enc P w base spare held n f.type ((cs.drop f.offset).take (P.cellsOf f.type)) = some y) : ∃ z, cs[j]? = some (.bool z) := by
  obtain ⟨z, q, _⟩ := DataW.trod_bool hu h
  rw [ho, hc] at q
  refine ⟨z, ?_⟩
  have : ((cs.drop j).take 1)[0]? = some (.bool z) := by rw [q]; rfl
  rw [List.getElem?_take, if_pos (by omega), List.getElem?_drop] at this
  simpa using this
def ctI (w : World) (b o : Nat) : Int := match w.cell? ⟨b, o, none⟩ with | some (.int _ z) => z | _ => 0
def ctB (w : World) (b o : Nat) : Bool := match w.cell? ⟨b, o, none⟩ with | some (.bool z) => z | _ => false
def scrOf (w : World) (b o : Nat) : Scr := ⟨fun i => ctI w b (o + i * 3), fun i => ctI w b (o + i * 3 + 1), fun i => ctB w b (o + i * 3 + 2)⟩
theorem open_scr {t e : TypeId} {f0 f1 f2 : Field} {r : Reach} {b0 : Nat} {v : Value} {d : DataW H} {ps : List MemPlace} (ht : Try.prog.underlying t = some (.slice e)) (he : Try.prog.underlying e = some (.struct #[f0, f1, f2])) (hc : Try.prog.cellsOf e = 3)
    (u0 : Try.prog.underlying f0.type = some (.int .i64)) (u1 : Try.prog.underlying f1.type = some (.int .i64)) (u2 : Try.prog.underlying f2.type = some .bool)
    (o0 : f0.offset = 0) (o1 : f1.offset = 1) (o2 : f2.offset = 2)
    (c0 : Try.prog.cellsOf f0.type = 1) (c1 : Try.prog.cellsOf f1.type = 1) (c2 : Try.prog.cellsOf f2.type = 1)
    (hval : Value.okWide Try.prog w r b0 t v) (h : DataW.Trod enc Try.prog w base spare held t v d ps) :
    ∃ a n c, v = .slice a n c ∧ (n = 0 ∨ ∃ (b o : Nat) (S : Scr), a = some ⟨b, o, none⟩ ∧ HasRows w b o n 3 S.row ∧ ∀ i, i < n → wfT (S.n i)) := by
  obtain ⟨a, n, c, rfl, h1, h2, h3⟩ := open_cells ht (by omega) hval h
  refine ⟨a, n, c, rfl, h3.imp_right ?_⟩
  rintro ⟨b, o, rfl, hb, hx⟩
  have row : ∀ i, i < n → w.cell? ⟨b, o + i * 3, none⟩ = some (.int .i64 ((scrOf w b o).k i)) ∧ w.cell? ⟨b, o + i * 3 + 1, none⟩ = some (.int .i64 ((scrOf w b o).n i)) ∧
      w.cell? ⟨b, o + i * 3 + 2, none⟩ = some (.bool ((scrOf w b o).b i)) ∧ (Lit.int .i64 ((scrOf w b o).n i)).wf = true := fun i hi => by
    obtain ⟨cs, y, m, q1, q2, q3⟩ := hx i hi
    rw [hc] at q2
    obtain ⟨xs, n', _, rfl, hl, hlen, hf⟩ := DataW.trod_struct he q3
    match xs, hlen with
    | [y0, y1, y2], _ =>
      obtain ⟨z0, e0, _⟩ := field1 u0 o0 c0 (by simpa using hf 0 f0 rfl)
      obtain ⟨z1, e1, w1⟩ := field1 u1 o1 c1 (by simpa using hf 1 f1 rfl)
      obtain ⟨z2, e2⟩ := fieldB u2 o2 c2 (by simpa using hf 2 f2 rfl)
      have k0 := q2 0 (by omega); have k1 := q2 1 (by omega); have k2 := q2 2 (by omega)
      rw [e0] at k0; rw [e1] at k1; rw [e2] at k2
      rw [Nat.add_zero] at k0
      simp only [scrOf, ctI, ctB, k0, k1, k2]
      exact ⟨trivial, trivial, trivial, w1⟩
  refine ⟨b, o, scrOf w b o, rfl, fun i hi => ?_, fun i hi => i64_in (row i hi).2.2.2⟩
  obtain ⟨r0, r1, r2, _⟩ := row i hi
  obtain ⟨pc, ty, fr, hb2⟩ := cells_of r0
  refine ⟨pc, ty, fr, hb2, fun j v hv => ?_⟩
  have cell : ∀ k x, w.cell? ⟨b, k, none⟩ = some x → pc[k]? = some x := fun k x hk => by simpa [World.cell?, hb2] using hk
  match j, hv with
  | 0, hv => cases hv; exact cell _ _ r0
  | 1, hv => cases hv; exact cell _ _ r1
  | 2, hv => cases hv; exact cell _ _ r2
  | j + 3, hv => simp [Scr.row] at hv
end
theorem uu {K : Given} (hK : GivenOk Try.prog K) (B : Bd) {m c : Nat} {orc : List (Option Bool)} {p : Prop} (hr : ((mk Try.prog K 300).call 3 [.agg B.row.toArray, sl m c] (St.start 1 .leaf orc)).map (fun r => (r.1, r.2.obl)) = some (.bool true, p)) (hp : p) (hm : m ≤ c)
    (W : World) (b o : Nat) : Calls Try.prog 3 #[.agg B.row.toArray, .slice (some ⟨b, o, none⟩) m c] W fun e w' => e = .returned (.bool true) ∧ Below W.heap.size W w' :=
  ranG pg hK (ρ := fun _ => ⟨b, o, 0⟩) hr hp rfl (named_hs 1 orc _ W) (VL.cons (.of_flat rfl) (VL.cons (VR.unread (a := ⟨b, o, none⟩) (by decide) rfl rfl hm) VL.nil))
theorem nn {K : Given} (hK : GivenOk Try.prog K) (B : Bd) {orc : List (Option Bool)} {p : Prop} (hr : ((mk Try.prog K 300).call 3 [.agg B.row.toArray, .slice none 0 0] (St.start 0 .leaf orc)).map (fun r => (r.1, r.2.obl)) = some (.bool true, p)) (hp : p)
    (W : World) : Calls Try.prog 3 #[.agg B.row.toArray, .slice none 0 0] W fun e w' => e = .returned (.bool true) ∧ Below W.heap.size W w' :=
  ranF pg hK hr hp rfl rfl W
theorem walkB (W : World) (B : Bd) (a0 : Option Addr) (n0 c0 : Nat) (s0 : (a0 = none ∧ n0 = 0 ∧ c0 = 0) ∨ ∃ b o, a0 = some ⟨b, o, none⟩ ∧ n0 ≤ c0 ∧ (c0 : Int) ≤ 9223372036854775807)
    (z0 : n0 = 0 ∨ ∃ (b o : Nat) (S : Scr), a0 = some ⟨b, o, none⟩ ∧ HasRows W b o n0 3 S.row ∧ ∀ i, i < n0 → wfT (S.n i)) :
    Calls Try.prog 3 #[.agg B.row.toArray, .slice a0 n0 c0] W fun e w' => e = .returned (.bool true) ∧ Below W.heap.size W w' := by
  have cs : BdOk B ∨ B.le < 1 ∨ (1 ≤ B.le ∧ B.fi < B.le) ∨ (1 ≤ B.le ∧ B.le ≤ B.fi ∧ B.mo < B.fi) ∨ (1 ≤ B.le ∧ B.le ≤ B.fi ∧ B.fi ≤ B.mo ∧ 65536 < B.mo) ∨ (1 ≤ B.le ∧ B.le ≤ B.fi ∧ B.fi ≤ B.mo ∧ B.mo ≤ 65536 ∧ B.tr < 1) ∨ (1 ≤ B.le ∧ B.le ≤ B.fi ∧ B.fi ≤ B.mo ∧ B.mo ≤ 65536 ∧ 1 ≤ B.tr ∧ 100 < B.tr) := by
    unfold BdOk; omega
  rcases s0 with ⟨rfl, rfl, rfl⟩ | ⟨b, o, rfl, h1, h2⟩
  · rcases cs with h | h | h | h | h | h | h
    · unfold BdOk at h
      refine nn KL_ok B (runNil B) ⟨⟨⟨⟨⟨⟨⟨⟨⟨⟨⟨⟨trivial, ?_⟩, ?_⟩, ?_⟩, ?_⟩, ?_⟩, ?_⟩, ?_⟩, ?_⟩, ?_⟩, ?_⟩, ?_⟩, ?_⟩ W
      all_goals (first | trivial | (simp only [decide_eq_true_eq, decide_eq_false_iff_not]; omega) | (simp; omega) | (simp_all; done) | (simp_all; omega))
    · refine nn KL_ok B (runC0 B) ⟨⟨trivial, ?_⟩, ?_⟩ W
      all_goals (first | trivial | (simp only [decide_eq_true_eq, decide_eq_false_iff_not]; omega) | (simp; omega) | (simp_all; done) | (simp_all; omega))
    · refine nn KL_ok B (runC1 B) ⟨⟨⟨⟨trivial, ?_⟩, ?_⟩, ?_⟩, ?_⟩ W
      all_goals (first | trivial | (simp only [decide_eq_true_eq, decide_eq_false_iff_not]; omega) | (simp; omega) | (simp_all; done) | (simp_all; omega))
    · refine nn KL_ok B (runC2 B) ⟨⟨⟨⟨⟨⟨trivial, ?_⟩, ?_⟩, ?_⟩, ?_⟩, ?_⟩, ?_⟩ W
      all_goals (first | trivial | (simp only [decide_eq_true_eq, decide_eq_false_iff_not]; omega) | (simp; omega) | (simp_all; done) | (simp_all; omega))
    · refine nn KL_ok B (runC3 B) ⟨⟨⟨⟨⟨⟨⟨⟨trivial, ?_⟩, ?_⟩, ?_⟩, ?_⟩, ?_⟩, ?_⟩, ?_⟩, ?_⟩ W
      all_goals (first | trivial | (simp only [decide_eq_true_eq, decide_eq_false_iff_not]; omega) | (simp; omega) | (simp_all; done) | (simp_all; omega))
    · refine nn KL_ok B (runC4 B) ⟨⟨⟨⟨⟨⟨⟨⟨⟨⟨trivial, ?_⟩, ?_⟩, ?_⟩, ?_⟩, ?_⟩, ?_⟩, ?_⟩, ?_⟩, ?_⟩, ?_⟩ W
      all_goals (first | trivial | (simp only [decide_eq_true_eq, decide_eq_false_iff_not]; omega) | (simp; omega) | (simp_all; done) | (simp_all; omega))
    · refine nn KL_ok B (runC5 B) ⟨⟨⟨⟨⟨⟨⟨⟨⟨⟨⟨⟨trivial, ?_⟩, ?_⟩, ?_⟩, ?_⟩, ?_⟩, ?_⟩, ?_⟩, ?_⟩, ?_⟩, ?_⟩, ?_⟩, ?_⟩ W
      all_goals (first | trivial | (simp only [decide_eq_true_eq, decide_eq_false_iff_not]; omega) | (simp; omega) | (simp_all; done) | (simp_all; omega))
  · by_cases h80 : (n0 : Int) > 80
    · exact uu KL_ok B (runLong B n0 c0) ⟨trivial, by simpa using h80⟩ h1 W b o
    · rcases cs with h | h | h | h | h | h | h
      · rcases Nat.eq_zero_or_pos n0 with rfl | hn
        · unfold BdOk at h
          refine uu KL_ok B (runZero B c0) ⟨⟨⟨⟨⟨⟨⟨⟨⟨⟨⟨⟨trivial, ?_⟩, ?_⟩, ?_⟩, ?_⟩, ?_⟩, ?_⟩, ?_⟩, ?_⟩, ?_⟩, ?_⟩, ?_⟩, ?_⟩ h1 W b o
          all_goals (first | trivial | (simp only [decide_eq_true_eq, decide_eq_false_iff_not]; omega) | (simp; omega) | (simp_all; done) | (simp_all; omega))
        · rcases z0 with z0 | ⟨b', o', S, e, hr, wf⟩
          · omega
          · cases e
            have hB := h
            unfold BdOk at h
            obtain ⟨ρ, g1, g2⟩ := rows_start [some false, none, none, none, none, none, some false, none, none, none, none, none, some false, none, none, none, none, none, some false, none, none, none, none, none, some false, none, none, none, none, none, none, none, none, none, none, none, some false, none, none, none, none, none, some false, none, none, none, none, none, some true, none, none, none, none, none, some true, none, none, none, none, none, some true, none, none, none, some true, none, none, none, some true, none, none, none, some false] (by decide : 0 < 3) hn (fun i => (rfl : (S.row i).all flat0 = true)) hr
            refine ranG pg (GivenOk.asking KL_ok (LM S B n0 c0)) (runMain S B n0 c0) ⟨⟨⟨⟨⟨⟨⟨⟨⟨⟨⟨⟨⟨⟨trivial, ?_⟩, ?_⟩, ?_⟩, ?_⟩, ?_⟩, ?_⟩, ?_⟩, ?_⟩, ?_⟩, ?_⟩, ?_⟩, ?_⟩, ?_⟩, fun rd => loopOk S B n0 c0 hn (by omega) hB wf rd⟩ rfl g1 (VL.cons (.of_flat rfl) (VL.cons (g2 n0 c0 h1) VL.nil))
            all_goals (first | trivial | (simp only [decide_eq_true_eq, decide_eq_false_iff_not]; omega) | (simp; omega) | (simp_all; done) | (simp_all; omega))
      · refine uu KL_ok B (runB0 B n0 c0) ⟨⟨⟨trivial, ?_⟩, ?_⟩, ?_⟩ h1 W b o
        all_goals (first | trivial | (simp only [decide_eq_true_eq, decide_eq_false_iff_not]; omega) | (simp; omega) | (simp_all; done) | (simp_all; omega))
      · refine uu KL_ok B (runB1 B n0 c0) ⟨⟨⟨⟨⟨trivial, ?_⟩, ?_⟩, ?_⟩, ?_⟩, ?_⟩ h1 W b o
        all_goals (first | trivial | (simp only [decide_eq_true_eq, decide_eq_false_iff_not]; omega) | (simp; omega) | (simp_all; done) | (simp_all; omega))
      · refine uu KL_ok B (runB2 B n0 c0) ⟨⟨⟨⟨⟨⟨⟨trivial, ?_⟩, ?_⟩, ?_⟩, ?_⟩, ?_⟩, ?_⟩, ?_⟩ h1 W b o
        all_goals (first | trivial | (simp only [decide_eq_true_eq, decide_eq_false_iff_not]; omega) | (simp; omega) | (simp_all; done) | (simp_all; omega))
      · refine uu KL_ok B (runB3 B n0 c0) ⟨⟨⟨⟨⟨⟨⟨⟨⟨trivial, ?_⟩, ?_⟩, ?_⟩, ?_⟩, ?_⟩, ?_⟩, ?_⟩, ?_⟩, ?_⟩ h1 W b o
        all_goals (first | trivial | (simp only [decide_eq_true_eq, decide_eq_false_iff_not]; omega) | (simp; omega) | (simp_all; done) | (simp_all; omega))
      · refine uu KL_ok B (runB4 B n0 c0) ⟨⟨⟨⟨⟨⟨⟨⟨⟨⟨⟨trivial, ?_⟩, ?_⟩, ?_⟩, ?_⟩, ?_⟩, ?_⟩, ?_⟩, ?_⟩, ?_⟩, ?_⟩, ?_⟩ h1 W b o
        all_goals (first | trivial | (simp only [decide_eq_true_eq, decide_eq_false_iff_not]; omega) | (simp; omega) | (simp_all; done) | (simp_all; omega))
      · refine uu KL_ok B (runB5 B n0 c0) ⟨⟨⟨⟨⟨⟨⟨⟨⟨⟨⟨⟨⟨trivial, ?_⟩, ?_⟩, ?_⟩, ?_⟩, ?_⟩, ?_⟩, ?_⟩, ?_⟩, ?_⟩, ?_⟩, ?_⟩, ?_⟩, ?_⟩ h1 W b o
        all_goals (first | trivial | (simp only [decide_eq_true_eq, decide_eq_false_iff_not]; omega) | (simp; omega) | (simp_all; done) | (simp_all; omega))

end rn
end Go.Proofs.Ythgiflgofdmamab
