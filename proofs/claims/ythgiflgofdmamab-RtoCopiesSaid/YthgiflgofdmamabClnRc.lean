/- Read off the code by the clean reading. -/
import Derived.Test.YthgiflgofdmamabClnRb
import Derived.Test.YthgiflgofdmamabRows
import Derived.WalkKit
import Derived.ProofKit
import Derived.Below
import Derived.IntWalk
import Derived.Test.YthgiflgofdmamabClnQ
import Derived.Test.YthgiflgofdmamabOpen
set_option linter.unusedVariables false
set_option linter.unusedSimpArgs false
set_option linter.deprecated false
set_option maxRecDepth 100000
namespace Go.Proofs.Ythgiflgofdmamab
open Go.ChangeShapes Go.WideShapes Go.ChangeAt Go.RowKit Go.Cln
namespace rn
set_option linter.unusedVariables false
set_option linter.unusedSimpArgs false

theorem lw_bd (le mo sm sp : Int) (h : le ≤ mo) : le ≤ lwI le mo sm sp ∧ lwI le mo sm sp ≤ mo := by
  unfold lwI
  split
  · omega
  · split <;> omega
def Keeps (c d : Clk) : Prop := Gd d ∧ d.fi = c.fi ∧ d.le = c.le ∧ d.mo = c.mo ∧ d.tr = c.tr
theorem keeps_refl {c : Clk} (h : Gd c) : Keeps c c := ⟨h, rfl, rfl, rfl, rfl⟩
theorem sam_keeps (c : Clk) (t : Int) (h : Gd c) : Keeps c (sampleF c t) := by
  unfold sampleF
  split
  · exact keeps_refl h
  split
  · exact keeps_refl h
  rename_i h1 h2
  obtain ⟨q0, q1, q2, q3, q4, q5, q6, q7, q8, q9, q10, q11, q12, q13, q14, q15, q16⟩ := h
  have d0 := div8 c.sm q6
  have d1 := div4 c.sp q8
  split
  · have lb := lw_bd c.le c.mo (smN c.sm t) (spN c.sm c.sp t) (by omega)
    refine ⟨⟨q0, q1, q2, q3, q4, q5, ?_, ?_, ?_, ?_, lb.1, lb.2, q12, q13, q14, q15, q16⟩, rfl, rfl, rfl, rfl⟩
    · simp only [smN]; omega
    · simp only [smN]; omega
    · simp only [spN]; split <;> omega
    · simp only [spN]; split <;> omega
  · have lb := lw_bd c.le c.mo (8 * t) (2 * t) (by omega)
    exact ⟨⟨q0, q1, q2, q3, q4, q5, by simp only; omega, by simp only; omega, by simp only; omega, by simp only; omega, lb.1, lb.2, q12, q13, q14, q15, q16⟩, rfl, rfl, rfl, rfl⟩
theorem sta_keeps (c : Clk) (t : Int) (h : Gd c) : Keeps c (startF c t) := by
  unfold startF
  split
  · exact keeps_refl h
  split
  · exact keeps_refl h
  split
  · exact keeps_refl h
  obtain ⟨q0, q1, q2, q3, q4, q5, q6, q7, q8, q9, q10, q11, q12, q13, q14, q15, q16⟩ := h
  exact ⟨⟨q0, q1, q2, q3, q4, q5, q6, q7, q8, q9, q10, q11, by simp only; omega, by simp only; omega, by simp only; omega, by simp only; omega, .inl rfl⟩, rfl, rfl, rfl, rfl⟩
theorem sto_keeps (c : Clk) (h : Gd c) : Keeps c (stopF c) := by
  obtain ⟨q0, q1, q2, q3, q4, q5, q6, q7, q8, q9, q10, q11, q12, q13, q14, q15, q16⟩ := h
  have lb := lw_bd c.le c.mo c.sm c.sp (by omega)
  refine ⟨⟨q0, q1, q2, q3, q4, q5, q6, q7, q8, q9, ?_, ?_, Int.le_refl _, by simp only [stopF]; omega, Int.le_refl _, by simp only [stopF]; omega, .inr rfl⟩, rfl, rfl, rfl, rfl⟩ <;> simp only [stopF] <;> split <;> omega
theorem lat_keeps (c : Clk) (t : Int) (h : Gd c) : Keeps c (lateF c t) := by
  unfold lateF
  split
  · exact keeps_refl h
  split
  · exact keeps_refl h
  split
  · exact keeps_refl h
  split
  · split
    · split
      · obtain ⟨q0, q1, q2, q3, q4, q5, q6, q7, q8, q9, q10, q11, q12, q13, q14, q15, q16⟩ := h
        exact ⟨⟨q0, q1, q2, q3, q4, q5, q6, q7, q8, q9, q10, q11, q12, q13, Int.le_refl _, by simp only; omega, .inr rfl⟩, rfl, rfl, rfl, rfl⟩
      · rename_i hru _ _
        obtain ⟨q0, q1, q2, q3, q4, q5, q6, q7, q8, q9, q10, q11, q12, q13, q14, q15, q16⟩ := h
        exact ⟨⟨q0, q1, q2, q3, q4, q5, q6, q7, q8, q9, by simp only; split <;> omega, by simp only; split <;> omega, by simp only; omega, by simp only; omega, by simp only; omega, by simp only; omega, .inl hru⟩, rfl, rfl, rfl, rfl⟩
    · exact keeps_refl h
  · exact keeps_refl h
theorem does_keeps (c : Clk) (k n : Int) (b : Bool) (h : Gd c) : Keeps c (doesF Zr c k n b) := by
  unfold doesF
  split
  · exact sam_keeps c n h
  split
  · exact sta_keeps c _ h
  split
  · exact sto_keeps c h
  split
  · exact lat_keeps c _ h
  · exact keeps_refl h
theorem aq_eq (i : Nat) : aq i = i := by unfold aq ad; omega
theorem nx_eq (S : Scr) (w : Clk) (i : Nat) : nx (doesF Zr) S w i = doesF Zr w (S.k i) (S.n i) (S.b i) := by unfold nx; rw [aq_eq]
noncomputable def stC (S : Scr) (B : Bd) : Nat → Clk
  | 0 => newC B
  | i + 1 => doesF Zr (stC S B i) (S.k i) (S.n i) (S.b i)
def BdOk (B : Bd) : Prop := 1 ≤ B.le ∧ B.le ≤ B.fi ∧ B.fi ≤ B.mo ∧ B.mo ≤ 65536 ∧ 1 ≤ B.tr ∧ B.tr ≤ 100
def Of (B : Bd) (c : Clk) : Prop := Gd c ∧ c.fi = B.fi ∧ c.le = B.le ∧ c.mo = B.mo ∧ c.tr = B.tr
theorem stC_of (S : Scr) (B : Bd) (h : BdOk B) : ∀ i, Of B (stC S B i)
  | 0 => by
    obtain ⟨h0, h1, h2, h3, h4, h5⟩ := h
    exact ⟨⟨h0, h1, h2, h3, h4, h5, by simp [stC, newC], by simp [stC, newC], by simp [stC, newC], by simp [stC, newC], h1, by simp only [stC, newC]; omega, by simp [stC, newC], by simp only [stC, newC]; omega, by simp [stC, newC], by simp [stC, newC], .inr rfl⟩, rfl, rfl, rfl, rfl⟩
  | i + 1 => by
    obtain ⟨hg, e0, e1, e2, e3⟩ := stC_of S B h i
    obtain ⟨kg, k0, k1, k2, k3⟩ := does_keeps (stC S B i) (S.k i) (S.n i) (S.b i) hg
    exact ⟨kg, k0.trans e0, k1.trans e1, k2.trans e2, k3.trans e3⟩

end rn
end Go.Proofs.Ythgiflgofdmamab
namespace Go.Proofs.Ythgiflgofdmamab
open Go.ChangeShapes Go.WideShapes Go.ChangeAt Go.RowKit Go.Cln
namespace rn
set_option linter.unusedVariables false
set_option linter.unusedSimpArgs false

open Go.Cln
section
variable {H : Type} {enc : TypeId × Value → H} {w : World} {base : Nat} {spare : Nat → Bool} {held : Bool}
theorem field1 {P : Program} {f : Field} {cs : List Value} {n j : Nat} {y : DataW H × List MemPlace} {k : IntKind} (hu : P.underlying f.type = some (.int k)) (ho : f.offset = j) (hc : P.cellsOf f.type = 1)
    (h : DataW.trod enc P w base spare held n f.type ((cs.drop f.offset).take (P.cellsOf f.type)) = some y) : ∃ z, cs[j]? = some (.int k z) ∧ (Lit.int k z).wf = true := by
  obtain ⟨z, q, _, hw⟩ := DataW.trod_int hu h
  rw [ho, hc] at q
  refine ⟨z, ?_, hw⟩
  have : ((cs.drop j).take 1)[0]? = some (.int k z) := by rw [q]; rfl
  rw [List.getElem?_take, if_pos (by omega), List.getElem?_drop] at this
  simpa using this
theorem fieldB {P : Program} {f : Field} {cs : List Value} {n j : Nat} {y : DataW H × List MemPlace} (hu : P.underlying f.type = some .bool) (ho : f.offset = j) (hc : P.cellsOf f.type = 1)
    (h : DataW.trod enc P w base spare held n f.type ((cs.drop f.offset).take (P.cellsOf f.type)) = some y) : ∃ z, cs[j]? = some (.bool z) := by
  obtain ⟨z, q, _⟩ := DataW.trod_bool hu h
  rw [ho, hc] at q
  refine ⟨z, ?_⟩
  have : ((cs.drop j).take 1)[0]? = some (.bool z) := by rw [q]; rfl
  rw [List.getElem?_take, if_pos (by omega), List.getElem?_drop] at this
  simpa using this
def ctI (w : World) (b o : Nat) : Int := match w.cell? ⟨b, o, none⟩ with | some (.int _ z) => z | _ => 0
def ctB (w : World) (b o : Nat) : Bool := match w.cell? ⟨b, o, none⟩ with | some (.bool z) => z | _ => false
def scrOf (w : World) (b o : Nat) : Scr := ⟨fun i => ctI w b (o + i * 3), fun i => ctI w b (o + i * 3 + 1), fun i => ctB w b (o + i * 3 + 2)⟩
theorem open_scr {t e : TypeId} {f0 f1 f2 : Field} {r : Reach} {b0 : Nat} {v : Value} {d : DataW H} {ps : List MemPlace} (ht : Try.prog.underlying t = some (.slice e)) (he : Try.prog.underlying e = some (.struct #[f0, f1, f2])) (hc : Try.prog.cellsOf e = 3)
    (u0 : Try.prog.underlying f0.type = some (.int .i64)) (u1 : Try.prog.underlying f1.type = some (.int .i64)) (u2 : Try.prog.underlying f2.type = some .bool)
    (o0 : f0.offset = 0) (o1 : f1.offset = 1) (o2 : f2.offset = 2)
    (c0 : Try.prog.cellsOf f0.type = 1) (c1 : Try.prog.cellsOf f1.type = 1) (c2 : Try.prog.cellsOf f2.type = 1)
    (hval : Value.okWide Try.prog w r b0 t v) (h : DataW.Trod enc Try.prog w base spare held t v d ps) :
    ∃ a n c, v = .slice a n c ∧ (n = 0 ∨ ∃ (b o : Nat) (S : Scr), a = some ⟨b, o, none⟩ ∧ HasRows w b o n 3 S.row ∧ ∀ i, i < n → wfT (S.n i)) := by
  obtain ⟨a, n, c, rfl, h1, h2, h3⟩ := open_cells ht (by omega) hval h
  refine ⟨a, n, c, rfl, h3.imp_right ?_⟩
  rintro ⟨b, o, rfl, hb, hx⟩
  have row : ∀ i, i < n → w.cell? ⟨b, o + i * 3, none⟩ = some (.int .i64 ((scrOf w b o).k i)) ∧ w.cell? ⟨b, o + i * 3 + 1, none⟩ = some (.int .i64 ((scrOf w b o).n i)) ∧
      w.cell? ⟨b, o + i * 3 + 2, none⟩ = some (.bool ((scrOf w b o).b i)) ∧ (Lit.int .i64 ((scrOf w b o).n i)).wf = true := fun i hi => by
    obtain ⟨cs, y, m, q1, q2, q3⟩ := hx i hi
    rw [hc] at q2
    obtain ⟨xs, n', _, rfl, hl, hlen, hf⟩ := DataW.trod_struct he q3
    match xs, hlen with
    | [y0, y1, y2], _ =>
      obtain ⟨z0, e0, _⟩ := field1 u0 o0 c0 (by simpa using hf 0 f0 rfl)
      obtain ⟨z1, e1, w1⟩ := field1 u1 o1 c1 (by simpa using hf 1 f1 rfl)
      obtain ⟨z2, e2⟩ := fieldB u2 o2 c2 (by simpa using hf 2 f2 rfl)
      have k0 := q2 0 (by omega); have k1 := q2 1 (by omega); have k2 := q2 2 (by omega)
      rw [e0] at k0; rw [e1] at k1; rw [e2] at k2
      rw [Nat.add_zero] at k0
      simp only [scrOf, ctI, ctB, k0, k1, k2]
      exact ⟨trivial, trivial, trivial, w1⟩
  refine ⟨b, o, scrOf w b o, rfl, fun i hi => ?_, fun i hi => i64_in (row i hi).2.2.2⟩
  obtain ⟨r0, r1, r2, _⟩ := row i hi
  obtain ⟨pc, ty, fr, hb2⟩ := cells_of r0
  refine ⟨pc, ty, fr, hb2, fun j v hv => ?_⟩
  have cell : ∀ k x, w.cell? ⟨b, k, none⟩ = some x → pc[k]? = some x := fun k x hk => by simpa [World.cell?, hb2] using hk
  match j, hv with
  | 0, hv => cases hv; exact cell _ _ r0
  | 1, hv => cases hv; exact cell _ _ r1
  | 2, hv => cases hv; exact cell _ _ r2
  | j + 3, hv => simp [Scr.row] at hv
end

end rn
end Go.Proofs.Ythgiflgofdmamab
