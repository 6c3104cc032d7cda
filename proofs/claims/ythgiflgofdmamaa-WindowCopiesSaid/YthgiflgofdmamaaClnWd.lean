/- Read off the code by the clean reading. -/
import Derived.Test.YthgiflgofdmamaaClnWc
import Derived.Test.YthgiflgofdmamaaRows
import Derived.WalkKit
import Derived.ProofKit
import Derived.Below
import Derived.IntWalk
import Derived.Test.YthgiflgofdmamaaClnQ
import Derived.Test.YthgiflgofdmamaaOpen
set_option linter.unusedVariables false
set_option linter.unusedSimpArgs false
set_option linter.deprecated false
set_option maxRecDepth 100000
namespace Go.Proofs.Ythgiflgofdmamaa
open Go.ChangeShapes Go.WideShapes Go.ChangeAt Go.RowKit Go.Cln
namespace wn
set_option linter.unusedVariables false
set_option linter.unusedSimpArgs false

noncomputable def stW (S : Scr) : Nat → W4
  | 0 => ⟨0, 0, 0, 0⟩
  | i + 1 => stepW (stW S i) (S.k i) (S.n i) (S.r i) (S.b i)
theorem aq_eq (i : Nat) : aq i = i := by unfold aq ad; omega
def Up (w v : W4) (B : Int) : Prop := Inv v B ∧ w.a ≤ v.a ∧ w.m ≤ v.m ∧ w.l ≤ v.l
theorem take_up (w : W4) (n B : Int) (h : Inv w B) (hB : 0 ≤ B) : Up w (takeW w n) (B + 65536) := by
  obtain ⟨a, s, m, l⟩ := w
  obtain ⟨i0, i1, i2, i3, i4⟩ := h
  simp only at i0 i1 i2 i3 i4
  have same : Up ⟨a, s, m, l⟩ ⟨a, s, m, l⟩ (B + 65536) := ⟨⟨i0, i1, i2, i3, by simp only; omega⟩, Int.le_refl _, Int.le_refl _, Int.le_refl _⟩
  unfold takeW
  by_cases hs : s < l
  · simp only [hs, if_true]
    split
    · exact same
    split
    · exact same
    exact ⟨⟨by simp only; omega, by simp only; omega, by simp only; split <;> omega, by simp only; split <;> omega, by simp only; omega⟩, Int.le_refl _, by simp only; split <;> omega, Int.le_refl _⟩
  · simp only [hs, if_false]
    split
    · exact same
    split
    · exact same
    exact ⟨⟨by simp only; omega, by simp only; omega, by simp only; split <;> omega, by simp only; split <;> omega, by simp only; omega⟩, Int.le_refl _, by simp only; split <;> omega, Int.le_refl _⟩
theorem ack_up (w : W4) (u r B : Int) (h : Inv w B) (hB : 0 ≤ B) : Up w (ackW w u r) (B + 65536) := by
  obtain ⟨a, s, m, l⟩ := w
  obtain ⟨i0, i1, i2, i3, i4⟩ := h
  simp only at i0 i1 i2 i3 i4
  unfold ackW
  simp only
  have same : Up ⟨a, s, m, l⟩ ⟨a, s, m, l⟩ (B + 65536) := ⟨⟨i0, i1, i2, i3, by simp only; omega⟩, Int.le_refl _, Int.le_refl _, Int.le_refl _⟩
  split
  · exact same
  split
  · exact same
  split
  · exact same
  split
  · exact same
  split
  · exact same
  refine ⟨⟨by simp only; omega, by simp only; split <;> omega, by simp only; split <;> omega, by simp only; split <;> omega, by simp only; split <;> omega⟩, by simp only; omega, by simp only; omega, by simp only; split <;> omega⟩
theorem probe_up (w : W4) (B : Int) (h : Inv w B) (hB : 0 ≤ B) : Up w (probeW w) (B + 65536) := by
  obtain ⟨a, s, m, l⟩ := w
  obtain ⟨i0, i1, i2, i3, i4⟩ := h
  simp only at i0 i1 i2 i3 i4
  unfold probeW
  simp only
  have same : Up ⟨a, s, m, l⟩ ⟨a, s, m, l⟩ (B + 65536) := ⟨⟨i0, i1, i2, i3, by simp only; omega⟩, Int.le_refl _, Int.le_refl _, Int.le_refl _⟩
  split
  · split
    · exact ⟨⟨by simp only; omega, by simp only; omega, by simp only; omega, by simp only; omega, by simp only; omega⟩, Int.le_refl _, by simp only; omega, Int.le_refl _⟩
    · exact same
  · exact same
theorem step_up (w : W4) (k n r : Int) (b : Bool) (B : Int) (h : Inv w B) (hB : 0 ≤ B) : Up w (stepW w k n r b) (B + 65536) := by
  unfold stepW
  split
  · exact take_up w n B h hB
  split
  · exact ack_up w _ r B h hB
  have same : Up w w (B + 65536) := ⟨⟨h.1, h.2.1, h.2.2.1, h.2.2.2.1, by have := h.2.2.2.2; omega⟩, Int.le_refl _, Int.le_refl _, Int.le_refl _⟩
  split
  · obtain ⟨i0, i1, i2, i3, i4⟩ := h
    exact ⟨⟨i0, Int.le_refl _, by simp only; omega, i3, by simp only; omega⟩, Int.le_refl _, Int.le_refl _, Int.le_refl _⟩
  split
  · exact probe_up w B h hB
  · exact same
theorem nx_eq (S : Scr) (w : W4) (i : Nat) : nx stepW S w i = stepW w (S.k i) (S.n i) (S.r i) (S.b i) := by unfold nx; rw [aq_eq]
theorem stW_inv (S : Scr) : ∀ i : Nat, Inv (stW S i) (65536 * i)
  | 0 => ⟨by simp [stW], by simp [stW], by simp [stW], by simp [stW], by simp [stW]⟩
  | i + 1 => by
    have h := (step_up (stW S i) (S.k i) (S.n i) (S.r i) (S.b i) (65536 * i) (stW_inv S i) (by omega)).1
    have e : (65536 : Int) * (i : Int) + 65536 = 65536 * ((i + 1 : Nat) : Int) := by omega
    rw [e] at h; exact h
theorem pB_ok (S : Scr) (n i : Nat) (w : W4) (B : Int) (hi : i < n) (h80 : n ≤ 80) (hI : Inv w B) (hB : 0 ≤ B) (hB2 : B ≤ 10000000) (wf : -9223372036854775808 ≤ S.n i ∧ S.n i ≤ 9223372036854775807) : pB stepW roomI zeroB S n w i := by
  obtain ⟨hz, ha, hm, hl⟩ := step_up w (S.k i) (S.n i) (S.r i) (S.b i) B hI hB
  rw [← nx_eq] at hz ha hm hl
  obtain ⟨z0, z1, z2, z3, z4⟩ := hz
  obtain ⟨i0, i1, i2, i3, i4⟩ := hI
  have ei : aq i = i := aq_eq i
  have h0 : c0 stepW roomI zeroB S n w i := by
    unfold c0
    first | trivial | (simp only [decide_eq_true_eq, decide_eq_false_iff_not, IntKind.wrap_i64]; omega) | (simp; done) | (unfold ad; omega) | (rw [ei]; exact ⟨⟨rfl, rfl, rfl, rfl⟩, ⟨i0, i1, i2, i3, by simp only; omega⟩, wf⟩) | omega
  have h1 : c1 stepW roomI zeroB S n w i := by
    unfold c1
    first | trivial | (simp only [decide_eq_true_eq, decide_eq_false_iff_not, IntKind.wrap_i64]; omega) | (simp; done) | (unfold ad; omega) | (rw [ei]; exact ⟨⟨rfl, rfl, rfl, rfl⟩, ⟨i0, i1, i2, i3, by simp only; omega⟩, wf⟩) | omega
  have h2 : c2 stepW roomI zeroB S n w i := by
    unfold c2
    first | trivial | (simp only [decide_eq_true_eq, decide_eq_false_iff_not, IntKind.wrap_i64]; omega) | (simp; done) | (unfold ad; omega) | (rw [ei]; exact ⟨⟨rfl, rfl, rfl, rfl⟩, ⟨i0, i1, i2, i3, by simp only; omega⟩, wf⟩) | omega
  have h3 : c3 stepW roomI zeroB S n w i := by
    unfold c3
    first | trivial | (simp only [decide_eq_true_eq, decide_eq_false_iff_not, IntKind.wrap_i64]; omega) | (simp; done) | (unfold ad; omega) | (rw [ei]; exact ⟨⟨rfl, rfl, rfl, rfl⟩, ⟨i0, i1, i2, i3, by simp only; omega⟩, wf⟩) | omega
  have h4 : c4 stepW roomI zeroB S n w i := by
    unfold c4
    first | trivial | (simp only [decide_eq_true_eq, decide_eq_false_iff_not, IntKind.wrap_i64]; omega) | (simp; done) | (unfold ad; omega) | (rw [ei]; exact ⟨⟨rfl, rfl, rfl, rfl⟩, ⟨i0, i1, i2, i3, by simp only; omega⟩, wf⟩) | omega
  have h5 : c5 stepW roomI zeroB S n w i := by
    unfold c5
    first | trivial | (simp only [decide_eq_true_eq, decide_eq_false_iff_not, IntKind.wrap_i64]; omega) | (simp; done) | (unfold ad; omega) | (rw [ei]; exact ⟨⟨rfl, rfl, rfl, rfl⟩, ⟨i0, i1, i2, i3, by simp only; omega⟩, wf⟩) | omega
  have h6 : c6 stepW roomI zeroB S n w i := by
    unfold c6
    first | trivial | (simp only [decide_eq_true_eq, decide_eq_false_iff_not, IntKind.wrap_i64]; omega) | (simp; done) | (unfold ad; omega) | (rw [ei]; exact ⟨⟨rfl, rfl, rfl, rfl⟩, ⟨i0, i1, i2, i3, by simp only; omega⟩, wf⟩) | omega
  have h7 : c7 stepW roomI zeroB S n w i := by
    unfold c7
    first | trivial | (simp only [decide_eq_true_eq, decide_eq_false_iff_not, IntKind.wrap_i64]; omega) | (simp; done) | (unfold ad; omega) | (rw [ei]; exact ⟨⟨rfl, rfl, rfl, rfl⟩, ⟨i0, i1, i2, i3, by simp only; omega⟩, wf⟩) | omega
  have h8 : c8 stepW roomI zeroB S n w i := by
    unfold c8
    first | trivial | (simp only [decide_eq_true_eq, decide_eq_false_iff_not, IntKind.wrap_i64]; omega) | (simp; done) | (unfold ad; omega) | (rw [ei]; exact ⟨⟨rfl, rfl, rfl, rfl⟩, ⟨i0, i1, i2, i3, by simp only; omega⟩, wf⟩) | omega
  have h9 : c9 stepW roomI zeroB S n w i := by
    unfold c9
    first | trivial | (simp only [decide_eq_true_eq, decide_eq_false_iff_not, IntKind.wrap_i64]; omega) | (simp; done) | (unfold ad; omega) | (rw [ei]; exact ⟨⟨rfl, rfl, rfl, rfl⟩, ⟨i0, i1, i2, i3, by simp only; omega⟩, wf⟩) | omega
  have h10 : c10 stepW roomI zeroB S n w i := by
    unfold c10
    first | trivial | (simp only [decide_eq_true_eq, decide_eq_false_iff_not, IntKind.wrap_i64]; omega) | (simp; done) | (unfold ad; omega) | (rw [ei]; exact ⟨⟨rfl, rfl, rfl, rfl⟩, ⟨i0, i1, i2, i3, by simp only; omega⟩, wf⟩) | omega
  have h11 : c11 stepW roomI zeroB S n w i := by
    unfold c11
    first | trivial | (simp only [decide_eq_true_eq, decide_eq_false_iff_not, IntKind.wrap_i64]; omega) | (simp; done) | (unfold ad; omega) | (rw [ei]; exact ⟨⟨rfl, rfl, rfl, rfl⟩, ⟨i0, i1, i2, i3, by simp only; omega⟩, wf⟩) | omega
  have h12 : c12 stepW roomI zeroB S n w i := by
    unfold c12
    first | trivial | (simp only [decide_eq_true_eq, decide_eq_false_iff_not, IntKind.wrap_i64]; omega) | (simp; done) | (unfold ad; omega) | (rw [ei]; exact ⟨⟨rfl, rfl, rfl, rfl⟩, ⟨i0, i1, i2, i3, by simp only; omega⟩, wf⟩) | omega
  have h13 : c13 stepW roomI zeroB S n w i := by
    unfold c13
    first | trivial | (simp only [decide_eq_true_eq, decide_eq_false_iff_not, IntKind.wrap_i64]; omega) | (simp; done) | (unfold ad; omega) | (rw [ei]; exact ⟨⟨rfl, rfl, rfl, rfl⟩, ⟨i0, i1, i2, i3, by simp only; omega⟩, wf⟩) | omega
  have h14 : c14 stepW roomI zeroB S n w i := by
    unfold c14
    first | trivial | (simp only [decide_eq_true_eq, decide_eq_false_iff_not, IntKind.wrap_i64]; omega) | (simp; done) | (unfold ad; omega) | (rw [ei]; exact ⟨⟨rfl, rfl, rfl, rfl⟩, ⟨i0, i1, i2, i3, by simp only; omega⟩, wf⟩) | omega
  have h15 : c15 stepW roomI zeroB S n w i := by
    unfold c15
    first | trivial | (simp only [decide_eq_true_eq, decide_eq_false_iff_not, IntKind.wrap_i64]; omega) | (simp; done) | (unfold ad; omega) | (rw [ei]; exact ⟨⟨rfl, rfl, rfl, rfl⟩, ⟨i0, i1, i2, i3, by simp only; omega⟩, wf⟩) | omega
  have h16 : c16 stepW roomI zeroB S n w i := by
    unfold c16
    first | trivial | (simp only [decide_eq_true_eq, decide_eq_false_iff_not, IntKind.wrap_i64]; omega) | (simp; done) | (unfold ad; omega) | (rw [ei]; exact ⟨⟨rfl, rfl, rfl, rfl⟩, ⟨i0, i1, i2, i3, by simp only; omega⟩, wf⟩) | omega
  have h17 : c17 stepW roomI zeroB S n w i := by
    unfold c17
    first | trivial | (simp only [decide_eq_true_eq, decide_eq_false_iff_not, IntKind.wrap_i64]; omega) | (simp; done) | (unfold ad; omega) | (rw [ei]; exact ⟨⟨rfl, rfl, rfl, rfl⟩, ⟨i0, i1, i2, i3, by simp only; omega⟩, wf⟩) | omega
  have h18 : c18 stepW roomI zeroB S n w i := by
    unfold c18
    first | trivial | (simp only [decide_eq_true_eq, decide_eq_false_iff_not, IntKind.wrap_i64]; omega) | (simp; done) | (unfold ad; omega) | (rw [ei]; exact ⟨⟨rfl, rfl, rfl, rfl⟩, ⟨i0, i1, i2, i3, by simp only; omega⟩, wf⟩) | omega
  have h19 : c19 stepW roomI zeroB S n w i := by
    unfold c19
    first | trivial | (simp only [decide_eq_true_eq, decide_eq_false_iff_not, IntKind.wrap_i64]; omega) | (simp; done) | (unfold ad; omega) | (rw [ei]; exact ⟨⟨rfl, rfl, rfl, rfl⟩, ⟨i0, i1, i2, i3, by simp only; omega⟩, wf⟩) | omega
  exact ⟨⟨⟨⟨⟨⟨⟨⟨⟨⟨⟨⟨⟨⟨⟨⟨⟨⟨⟨⟨⟨⟨⟨⟨⟨⟨⟨⟨⟨⟨⟨⟨⟨⟨⟨⟨⟨⟨⟨⟨⟨⟨⟨⟨⟨⟨⟨⟨⟨⟨⟨⟨⟨⟨⟨⟨⟨⟨⟨trivial, h0⟩, h1⟩, h2⟩, h3⟩, h4⟩, h5⟩, h6⟩, h7⟩, h8⟩, h9⟩, h9⟩, h10⟩, h10⟩, h10⟩, h4⟩, h10⟩, h4⟩, h10⟩, h10⟩, h11⟩, h11⟩, h11⟩, h11⟩, h11⟩, h11⟩, h12⟩, h12⟩, h12⟩, h12⟩, h12⟩, h12⟩, h13⟩, h13⟩, h13⟩, h13⟩, h13⟩, h14⟩, h13⟩, h13⟩, h15⟩, h15⟩, h15⟩, h15⟩, h15⟩, h15⟩, h16⟩, h16⟩, h16⟩, h16⟩, h16⟩, h16⟩, h17⟩, h17⟩, h17⟩, h17⟩, h17⟩, h17⟩, h18⟩, h19⟩
theorem pX_ok (n : Nat) : pX n n := by unfold pX; simp
theorem loopOk (S : Scr) (n c : Nat) (hn : 0 < n) (h80 : n ≤ 80) (wf : ∀ i, i < n → -9223372036854775808 ≤ S.n i ∧ S.n i ≤ 9223372036854775807) (rd : Option Nat) : CodeOk Try.prog rd (.loop body) (mkL S n ⟨0, 0, 0, 0⟩ (tE n c 0)) (.exit 0) (mkL S n (stW S n) (tR n c n)) := by
  refine CodeOk.of_step (Step.loop (fun k x => (k = n + 1 ∧ x = mkL S n ⟨0, 0, 0, 0⟩ (tE n c 0)) ∨ ∃ i : Nat, 1 ≤ i ∧ i ≤ n ∧ k = n - i ∧ x = mkL S n (stW S i) (tR n c i)) ?_ (n + 1) _ (.inl ⟨rfl, rfl⟩))
  rintro k x (⟨rfl, rfl⟩ | ⟨i, h1, h2, rfl, rfl⟩)
  · refine (stepE S n c ⟨0, 0, 0, 0⟩ ⟨0, 0, 0, 0⟩ (tE n c 0) 0 rd (pB_ok S n 0 _ 0 hn h80 (by have := stW_inv S 0; simpa [stW] using this) (by omega) (by omega) (wf 0 hn))).mono ?_
    rintro e s ⟨rfl, rfl⟩
    refine .inl ⟨rfl, n - 1, by omega, .inr ⟨1, by omega, by omega, rfl, ?_⟩⟩
    rw [nx_eq]; rfl
  · by_cases e : i = n
    · subst e
      refine (stepX S i c ⟨0, 0, 0, 0⟩ (stW S i) (tE i c 0) i rd (pX_ok i)).mono ?_
      rintro e s ⟨rfl, rfl⟩
      exact .inr ⟨(by intro x; cases x), rfl, rfl⟩
    · have hlt : i < n := by omega
      refine (stepR S n c ⟨0, 0, 0, 0⟩ (stW S i) (tE n c 0) i rd (pB_ok S n i _ (65536 * i) hlt h80 (stW_inv S i) (by omega) (by omega) (wf i hlt))).mono ?_
      rintro e s ⟨rfl, rfl⟩
      refine .inl ⟨rfl, n - (i + 1), by omega, .inr ⟨i + 1, by omega, by omega, rfl, ?_⟩⟩
      rw [nx_eq]; rfl

end wn
end Go.Proofs.Ythgiflgofdmamaa
namespace Go.Proofs.Ythgiflgofdmamaa
open Go.ChangeShapes Go.WideShapes Go.ChangeAt Go.RowKit Go.Cln
namespace wn
set_option linter.unusedVariables false
set_option linter.unusedSimpArgs false

open Go.Cln
noncomputable def LM (S : Scr) (n c : Nat) (f : FuncId) (s : St) : Option Go.Cln.Ask := if f == 3 then some ⟨⟨[], [], []⟩, .exit 0, fun _ => mkL S n (stW S n) (tR n c n)⟩ else none
noncomputable def KM (S : Scr) (n c : Nat) : Given := Given.asking (KL stepW roomI zeroB) Try.prog (LM S n c)
theorem runMain (S : Scr) (n c : Nat) : ((mk Try.prog (KM S n c) 300).call 3 [sl n c] (St.start 1 (rowsHeap n 4 S.row) [some false])).map (fun r => (r.1, r.2.obl)) =
    some (.bool true, (True ∧ decide ((n : Int) > 80) = false) ∧ ∀ rd, CodeOk Try.prog rd (.loop body) (mkL S n ⟨0, 0, 0, 0⟩ (tE n c 0)) (.exit 0) (mkL S n (stW S n) (tR n c n))) := by kernel_rfl
theorem runLong (n c : Nat) : ((mk Try.prog (KL stepW roomI zeroB) 300).call 3 [sl n c] (St.start 1 .leaf [some true])).map (fun r => (r.1, r.2.obl)) = some (.bool true, (True ∧ decide ((n : Int) > 80) = true)) := by kernel_rfl
theorem runZero (c : Nat) : ((mk Try.prog (KL stepW roomI zeroB) 300).call 3 [sl 0 c] (St.start 1 .leaf [])).map (fun r => (r.1, r.2.obl)) = some (.bool true, True) := by kernel_rfl
theorem runNil : ((mk Try.prog (KL stepW roomI zeroB) 300).call 3 [.slice none 0 0] (St.start 0 .leaf [])).map (fun r => (r.1, r.2.obl)) = some (.bool true, True) := by kernel_rfl

section
variable {H : Type} {enc : TypeId × Value → H} {w : World} {base : Nat} {spare : Nat → Bool} {held : Bool}
theorem field1 {P : Program} {f : Field} {cs : List Value} {n j : Nat} {y : DataW H × List MemPlace} {k : IntKind} (hu : P.underlying f.type = some (.int k)) (ho : f.offset = j) (hc : P.cellsOf f.type = 1)
    (h : DataW.trod enc P w base spare held n f.type ((cs.drop f.offset).take (P.cellsOf f.type)) = some y) : ∃ z, cs[j]? = some (.int k z) ∧ (Lit.int k z).wf = true := by
  obtain ⟨z, q, _, hw⟩ := DataW.trod_int hu h
  rw [ho, hc] at q
  refine ⟨z, ?_, hw⟩
  have : ((cs.drop j).take 1)[0]? = some (.int k z) := by rw [q]; rfl
  rw [List.getElem?_take, if_pos (by omega), List.getElem?_drop] at this
  simpa using this
theorem fieldB {P : Program} {f : Field} {cs : List Value} {n j : Nat} {y : DataW H × List MemPlace} (hu : P.underlying f.type = some .bool) (ho : f.offset = j) (hc : P.cellsOf f.type = 1)
    (h : DataW.trod enc P w base spare held n f.type ((cs.drop f.offset).take (P.cellsOf f.type)) = some y) : ∃ z, cs[j]? = some (.bool z) := by
  obtain ⟨z, q, _⟩ := DataW.trod_bool hu h
  rw [ho, hc] at q
  refine ⟨z, ?_⟩
  have : ((cs.drop j).take 1)[0]? = some (.bool z) := by rw [q]; rfl
  rw [List.getElem?_take, if_pos (by omega), List.getElem?_drop] at this
  simpa using this
def ctI (w : World) (b o : Nat) : Int := match w.cell? ⟨b, o, none⟩ with | some (.int _ z) => z | _ => 0
def ctB (w : World) (b o : Nat) : Bool := match w.cell? ⟨b, o, none⟩ with | some (.bool z) => z | _ => false
def scrOf (w : World) (b o : Nat) : Scr := ⟨fun i => ctI w b (o + i * 4), fun i => ctI w b (o + i * 4 + 1), fun i => ctI w b (o + i * 4 + 2), fun i => ctB w b (o + i * 4 + 3)⟩
theorem open_scr {t e : TypeId} {f0 f1 f2 f3 : Field} {r : Reach} {b0 : Nat} {v : Value} {d : DataW H} {ps : List MemPlace} (ht : Try.prog.underlying t = some (.slice e)) (he : Try.prog.underlying e = some (.struct #[f0, f1, f2, f3])) (hc : Try.prog.cellsOf e = 4)
    (u0 : Try.prog.underlying f0.type = some (.int .i64)) (u1 : Try.prog.underlying f1.type = some (.int .i64)) (u2 : Try.prog.underlying f2.type = some (.int .i64)) (u3 : Try.prog.underlying f3.type = some .bool)
    (o0 : f0.offset = 0) (o1 : f1.offset = 1) (o2 : f2.offset = 2) (o3 : f3.offset = 3)
    (c0 : Try.prog.cellsOf f0.type = 1) (c1 : Try.prog.cellsOf f1.type = 1) (c2 : Try.prog.cellsOf f2.type = 1) (c3 : Try.prog.cellsOf f3.type = 1)
    (hval : Value.okWide Try.prog w r b0 t v) (h : DataW.Trod enc Try.prog w base spare held t v d ps) :
    ∃ a n c, v = .slice a n c ∧ (n = 0 ∨ ∃ (b o : Nat) (S : Scr), a = some ⟨b, o, none⟩ ∧ HasRows w b o n 4 S.row ∧ ∀ i, i < n → -9223372036854775808 ≤ S.n i ∧ S.n i ≤ 9223372036854775807) := by
  obtain ⟨a, n, c, rfl, h1, h2, h3⟩ := open_cells ht (by omega) hval h
  refine ⟨a, n, c, rfl, h3.imp_right ?_⟩
  rintro ⟨b, o, rfl, hb, hx⟩
  have row : ∀ i, i < n → w.cell? ⟨b, o + i * 4, none⟩ = some (.int .i64 ((scrOf w b o).k i)) ∧ w.cell? ⟨b, o + i * 4 + 1, none⟩ = some (.int .i64 ((scrOf w b o).n i)) ∧ w.cell? ⟨b, o + i * 4 + 2, none⟩ = some (.int .i64 ((scrOf w b o).r i)) ∧
      w.cell? ⟨b, o + i * 4 + 3, none⟩ = some (.bool ((scrOf w b o).b i)) ∧ (Lit.int .i64 ((scrOf w b o).n i)).wf = true := fun i hi => by
    obtain ⟨cs, y, m, q1, q2, q3⟩ := hx i hi
    rw [hc] at q2
    obtain ⟨xs, n', _, rfl, hl, hlen, hf⟩ := DataW.trod_struct he q3
    match xs, hlen with
    | [y0, y1, y2, y3], _ =>
      obtain ⟨z0, e0, _⟩ := field1 u0 o0 c0 (by simpa using hf 0 f0 rfl)
      obtain ⟨z1, e1, w1⟩ := field1 u1 o1 c1 (by simpa using hf 1 f1 rfl)
      obtain ⟨z2, e2, _⟩ := field1 u2 o2 c2 (by simpa using hf 2 f2 rfl)
      obtain ⟨z3, e3⟩ := fieldB u3 o3 c3 (by simpa using hf 3 f3 rfl)
      have k0 := q2 0 (by omega); have k1 := q2 1 (by omega); have k2 := q2 2 (by omega); have k3 := q2 3 (by omega)
      rw [e0] at k0; rw [e1] at k1; rw [e2] at k2; rw [e3] at k3
      rw [Nat.add_zero] at k0
      simp only [scrOf, ctI, ctB, k0, k1, k2, k3]
      exact ⟨trivial, trivial, trivial, trivial, w1⟩
  refine ⟨b, o, scrOf w b o, rfl, fun i hi => ?_, fun i hi => i64_in (row i hi).2.2.2.2⟩
  obtain ⟨r0, r1, r2, r3, _⟩ := row i hi
  obtain ⟨pc, ty, fr, hb2⟩ := cells_of r0
  refine ⟨pc, ty, fr, hb2, fun j v hv => ?_⟩
  have cell : ∀ k x, w.cell? ⟨b, k, none⟩ = some x → pc[k]? = some x := fun k x hk => by simpa [World.cell?, hb2] using hk
  match j, hv with
  | 0, hv => cases hv; exact cell _ _ r0
  | 1, hv => cases hv; exact cell _ _ r1
  | 2, hv => cases hv; exact cell _ _ r2
  | 3, hv => cases hv; exact cell _ _ r3
  | j + 4, hv => simp [Scr.row] at hv
end
theorem walk0 (W : World) (a0 : Option Addr) (n0 c0 : Nat) (s0 : (a0 = none ∧ n0 = 0 ∧ c0 = 0) ∨ ∃ b o, a0 = some ⟨b, o, none⟩ ∧ n0 ≤ c0 ∧ (c0 : Int) ≤ 9223372036854775807)
    (z0 : n0 = 0 ∨ ∃ (b o : Nat) (S : Scr), a0 = some ⟨b, o, none⟩ ∧ HasRows W b o n0 4 S.row ∧ ∀ i, i < n0 → -9223372036854775808 ≤ S.n i ∧ S.n i ≤ 9223372036854775807) :
    Calls Try.prog 3 #[.slice a0 n0 c0] W fun e w' => e = .returned (.bool true) ∧ Below W.heap.size W w' := by
  rcases s0 with ⟨rfl, rfl, rfl⟩ | ⟨b, o, rfl, h1, h2⟩
  · exact ran pg KL_ok runNil trivial rfl rfl W
  · by_cases h80 : (n0 : Int) > 80
    · exact ranU pg KL_ok (runLong n0 c0) ⟨trivial, by simpa using h80⟩ rfl h1 W b o
    · rcases Nat.eq_zero_or_pos n0 with rfl | hn
      · exact ranU pg KL_ok (runZero c0) trivial rfl h1 W b o
      · rcases z0 with z0 | ⟨b', o', S, e, hr, wf⟩
        · omega
        · cases e
          exact ranR pg (GivenOk.asking KL_ok (LM S n0 c0)) (runMain S n0 c0) ⟨⟨trivial, by simpa using h80⟩, fun rd => loopOk S n0 c0 hn (by omega) wf rd⟩ (by decide) hn (fun i => rfl) rfl h1 W b o hr

end wn
end Go.Proofs.Ythgiflgofdmamaa
