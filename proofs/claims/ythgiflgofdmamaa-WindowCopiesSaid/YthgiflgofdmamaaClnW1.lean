/- Read off the code by the clean reading. -/
import Derived.Test.YthgiflgofdmamaaClnWa
import Derived.Test.YthgiflgofdmamaaRows
import Derived.WalkKit
import Derived.ProofKit
import Derived.Below
import Derived.IntWalk
set_option linter.unusedVariables false
set_option linter.unusedSimpArgs false
set_option linter.deprecated false
set_option maxRecDepth 100000
namespace Go.Proofs.Ythgiflgofdmamaa
open Go.ChangeShapes Go.WideShapes Go.ChangeAt Go.RowKit Go.Cln
namespace wn
set_option linter.unusedVariables false
set_option linter.unusedSimpArgs false
noncomputable section
theorem p0 (a s m l k n r : Int) (b : Bool) (hp : ((((True ∧ decide (k = 1) = false) ∧ decide (k = 2) = false) ∧ decide (k = 3) = false) ∧ decide (k = 4) = false)) : ActOk Try.prog 7 [.agg #[.int .i64 a, .int .i64 s, .int .i64 m, .int .i64 l], .agg #[.int .i64 k, .int .i64 n, .int .i64 r, .bool b]] (W5 a s m l) (.tuple #[.agg #[.int .i64 (a), .int .i64 (s), .int .i64 (m), .int .i64 (l)], .bool (true)]) ([.int .i64 (a), .int .i64 (s), .int .i64 (m), .int .i64 (l), .bool (true)]) :=
  ActOk.of_run pg K0_ok (n := 200) (t' := 0) (orc := [some false, some false, some false, some false]) (by kernel_rfl) hp rfl rfl rfl rfl
theorem p1 (a s m l k n r : Int) (b : Bool) (hp : ((((True ∧ decide (k = 1) = true) ∧ True) ∧ decide (n < 0) = true) ∧ decide (n < 0) = true)) : ActOk Try.prog 7 [.agg #[.int .i64 a, .int .i64 s, .int .i64 m, .int .i64 l], .agg #[.int .i64 k, .int .i64 n, .int .i64 r, .bool b]] (W5 a s m l) (.tuple #[.agg #[.int .i64 (a), .int .i64 (s), .int .i64 (m), .int .i64 (l)], .bool (true)]) ([.int .i64 (a), .int .i64 (s), .int .i64 (m), .int .i64 (l), .bool (true)]) :=
  ActOk.of_run pg K0_ok (n := 200) (t' := 0) (orc := [some true, none, some true, some true]) (by kernel_rfl) hp rfl rfl rfl rfl
theorem p2 (a s m l k n r : Int) (b : Bool) (hp : ((((((((((True ∧ decide (k = 1) = true) ∧ True) ∧ decide (n < 0) = false) ∧ True) ∧ IntKind.i64.wrap (l - s) = l - s) ∧ decide (0 < (l - s)) = false) ∧ decide (0 < n) = true) ∧ decide (n < 0) = false) ∧ decide (s < l) = false) ∧ decide (0 < n) = true)) : ActOk Try.prog 7 [.agg #[.int .i64 a, .int .i64 s, .int .i64 m, .int .i64 l], .agg #[.int .i64 k, .int .i64 n, .int .i64 r, .bool b]] (W5 a s m l) (.tuple #[.agg #[.int .i64 (a), .int .i64 (s), .int .i64 (m), .int .i64 (l)], .bool (true)]) ([.int .i64 (a), .int .i64 (s), .int .i64 (m), .int .i64 (l), .bool (true)]) :=
  ActOk.of_run pg K0_ok (n := 200) (t' := 0) (orc := [some true, none, some false, none, some true, none, none, none, none, none, none, none, some false, none, none, some true, some false, some false, some true]) (by kernel_rfl) hp rfl rfl rfl rfl
theorem p3 (a s m l k n r : Int) (b : Bool) (hp : (((((((((((True ∧ decide (k = 1) = true) ∧ True) ∧ decide (n < 0) = false) ∧ True) ∧ IntKind.i64.wrap (l - s) = l - s) ∧ decide (0 < (l - s)) = true) ∧ decide ((l - s) < n) = true) ∧ decide (n < 0) = false) ∧ decide (s < l) = true) ∧ IntKind.i64.wrap (l - s) = l - s) ∧ decide ((l - s) < n) = true)) : ActOk Try.prog 7 [.agg #[.int .i64 a, .int .i64 s, .int .i64 m, .int .i64 l], .agg #[.int .i64 k, .int .i64 n, .int .i64 r, .bool b]] (W5 a s m l) (.tuple #[.agg #[.int .i64 (a), .int .i64 (s), .int .i64 (m), .int .i64 (l)], .bool (true)]) ([.int .i64 (a), .int .i64 (s), .int .i64 (m), .int .i64 (l), .bool (true)]) :=
  ActOk.of_run pg K0_ok (n := 200) (t' := 0) (orc := [some true, none, some false, none, some true, none, none, none, none, none, none, none, some true, none, none, some true, some false, some true, some true, some true]) (by kernel_rfl) hp rfl rfl rfl rfl
theorem p4 (a s m l k n r : Int) (b : Bool) (hp : ((((((((((((((((True ∧ decide (k = 1) = true) ∧ True) ∧ decide (n < 0) = false) ∧ True) ∧ IntKind.i64.wrap (l - s) = l - s) ∧ decide (0 < (l - s)) = false) ∧ decide (0 < n) = false) ∧ IntKind.i64.wrap (s + n) = s + n) ∧ decide (m < m) = false) ∧ decide (m < (s + n)) = false) ∧ decide (n < 0) = false) ∧ decide (s < l) = false) ∧ decide (0 < n) = false) ∧ IntKind.i64.wrap (s + n) = s + n) ∧ decide (m < (s + n)) = false) ∧ decide (s = s) = true)) : ActOk Try.prog 7 [.agg #[.int .i64 a, .int .i64 s, .int .i64 m, .int .i64 l], .agg #[.int .i64 k, .int .i64 n, .int .i64 r, .bool b]] (W5 a s m l) (.tuple #[.agg #[.int .i64 (a), .int .i64 (s + n), .int .i64 (m), .int .i64 (l)], .bool (true)]) ([.int .i64 (a), .int .i64 (s + n), .int .i64 (m), .int .i64 (l), .bool (true)]) :=
  ActOk.of_run pg K0_ok (n := 200) (t' := 0) (orc := [some true, none, some false, none, some true, none, none, none, none, none, none, none, some false, none, none, some false, some true, none, none, none, none, none, some false, none, none, none, some false, none, none, none, none, some false, some false, some false, some true, some false, some true]) (by kernel_rfl) hp rfl rfl rfl rfl
theorem p5 (a s m l k n r : Int) (b : Bool) (hp : (((((((((((((((((True ∧ decide (k = 1) = true) ∧ True) ∧ decide (n < 0) = false) ∧ True) ∧ IntKind.i64.wrap (l - s) = l - s) ∧ decide (0 < (l - s)) = true) ∧ decide ((l - s) < n) = false) ∧ IntKind.i64.wrap (s + n) = s + n) ∧ decide (m < m) = false) ∧ decide (m < (s + n)) = true) ∧ decide (n < 0) = false) ∧ decide (s < l) = true) ∧ IntKind.i64.wrap (l - s) = l - s) ∧ decide ((l - s) < n) = false) ∧ IntKind.i64.wrap (s + n) = s + n) ∧ decide (m < (s + n)) = true) ∧ decide (s = s) = true)) : ActOk Try.prog 7 [.agg #[.int .i64 a, .int .i64 s, .int .i64 m, .int .i64 l], .agg #[.int .i64 k, .int .i64 n, .int .i64 r, .bool b]] (W5 a s m l) (.tuple #[.agg #[.int .i64 (a), .int .i64 (s + n), .int .i64 (s + n), .int .i64 (l)], .bool (true)]) ([.int .i64 (a), .int .i64 (s + n), .int .i64 (s + n), .int .i64 (l), .bool (true)]) :=
  ActOk.of_run pg K0_ok (n := 200) (t' := 0) (orc := [some true, none, some false, none, some true, none, none, none, none, none, none, none, some true, none, none, some false, some true, none, none, none, none, none, some false, none, none, none, some true, none, none, none, none, some false, some true, some true, some false, some true, some true, some true]) (by kernel_rfl) hp rfl rfl rfl rfl
theorem p6 (a s m l k n r : Int) (b : Bool) (hp : (((((((((((((((((True ∧ decide (k = 1) = true) ∧ True) ∧ decide (n < 0) = false) ∧ True) ∧ IntKind.i64.wrap (l - s) = l - s) ∧ decide (0 < (l - s)) = true) ∧ decide ((l - s) < n) = false) ∧ IntKind.i64.wrap (s + n) = s + n) ∧ decide (m < m) = false) ∧ decide (m < (s + n)) = false) ∧ decide (n < 0) = false) ∧ decide (s < l) = true) ∧ IntKind.i64.wrap (l - s) = l - s) ∧ decide ((l - s) < n) = false) ∧ IntKind.i64.wrap (s + n) = s + n) ∧ decide (m < (s + n)) = false) ∧ decide (s = s) = true)) : ActOk Try.prog 7 [.agg #[.int .i64 a, .int .i64 s, .int .i64 m, .int .i64 l], .agg #[.int .i64 k, .int .i64 n, .int .i64 r, .bool b]] (W5 a s m l) (.tuple #[.agg #[.int .i64 (a), .int .i64 (s + n), .int .i64 (m), .int .i64 (l)], .bool (true)]) ([.int .i64 (a), .int .i64 (s + n), .int .i64 (m), .int .i64 (l), .bool (true)]) :=
  ActOk.of_run pg K0_ok (n := 200) (t' := 0) (orc := [some true, none, some false, none, some true, none, none, none, none, none, none, none, some true, none, none, some false, some true, none, none, none, none, none, some false, none, none, none, some false, none, none, none, none, some false, some true, some true, some false, some true, some false, some true]) (by kernel_rfl) hp rfl rfl rfl rfl
theorem p7 (a s m l k n r : Int) (b : Bool) (hp : ((((((((True ∧ decide (k = 1) = false) ∧ decide (k = 2) = true) ∧ b = false) ∧ True) ∧ decide (n < 0) = false) ∧ decide (r < 0) = true) ∧ decide (n < 0) = false) ∧ decide (r < 0) = true)) : ActOk Try.prog 7 [.agg #[.int .i64 a, .int .i64 s, .int .i64 m, .int .i64 l], .agg #[.int .i64 k, .int .i64 n, .int .i64 r, .bool b]] (W5 a s m l) (.tuple #[.agg #[.int .i64 (a), .int .i64 (s), .int .i64 (m), .int .i64 (l)], .bool (true)]) ([.int .i64 (a), .int .i64 (s), .int .i64 (m), .int .i64 (l), .bool (true)]) :=
  ActOk.of_run pg K0_ok (n := 200) (t' := 0) (orc := [some false, some true, some false, none, none, none, none, none, none, none, some false, none, none, some true, none, none, none, some false, none, none, some true]) (by kernel_rfl) hp rfl rfl rfl rfl
theorem p8 (a s m l k n r : Int) (b : Bool) (hp : ((((((True ∧ decide (k = 1) = false) ∧ decide (k = 2) = true) ∧ b = false) ∧ True) ∧ decide (n < 0) = true) ∧ decide (n < 0) = true)) : ActOk Try.prog 7 [.agg #[.int .i64 a, .int .i64 s, .int .i64 m, .int .i64 l], .agg #[.int .i64 k, .int .i64 n, .int .i64 r, .bool b]] (W5 a s m l) (.tuple #[.agg #[.int .i64 (a), .int .i64 (s), .int .i64 (m), .int .i64 (l)], .bool (true)]) ([.int .i64 (a), .int .i64 (s), .int .i64 (m), .int .i64 (l), .bool (true)]) :=
  ActOk.of_run pg K0_ok (n := 200) (t' := 0) (orc := [some false, some true, some false, none, none, none, none, none, none, none, some true, none, none, none, none, none, none, some true]) (by kernel_rfl) hp rfl rfl rfl rfl
theorem p9 (a s m l k n r : Int) (b : Bool) (hp : (((((((True ∧ decide (k = 1) = false) ∧ decide (k = 2) = true) ∧ b = true) ∧ decide ((-1000) ≤ n) = false) ∧ True) ∧ decide (n < 0) = true) ∧ decide (n < 0) = true)) : ActOk Try.prog 7 [.agg #[.int .i64 a, .int .i64 s, .int .i64 m, .int .i64 l], .agg #[.int .i64 k, .int .i64 n, .int .i64 r, .bool b]] (W5 a s m l) (.tuple #[.agg #[.int .i64 (a), .int .i64 (s), .int .i64 (m), .int .i64 (l)], .bool (true)]) ([.int .i64 (a), .int .i64 (s), .int .i64 (m), .int .i64 (l), .bool (true)]) :=
  ActOk.of_run pg K0_ok (n := 200) (t' := 0) (orc := [some false, some true, some true, none, none, some false, none, none, none, none, some true, none, none, none, none, none, none, some true]) (by kernel_rfl) hp rfl rfl rfl rfl
end

end wn
end Go.Proofs.Ythgiflgofdmamaa
namespace Go.Proofs.Ythgiflgofdmamaa
open Go.ChangeShapes Go.WideShapes Go.ChangeAt Go.RowKit Go.Cln
namespace wn
set_option linter.unusedVariables false
set_option linter.unusedSimpArgs false
set_option maxHeartbeats 4000000 in
theorem q0 (a s m l k n r : Int) (b : Bool) (i0 : 0 ≤ a) (i1 : a ≤ s) (i2 : s ≤ m) (i3 : m ≤ l + 1) (i4 : l ≤ 1000000000000) (n0 : -9223372036854775808 ≤ n) (n1 : n ≤ 9223372036854775807) (h1 : ¬ (k = 1)) (h7 : ¬ (k = 2)) (h40 : ¬ (k = 3)) (h41 : ¬ (k = 4)) : ActOk Try.prog 7 [.agg #[.int .i64 a, .int .i64 s, .int .i64 m, .int .i64 l], .agg #[.int .i64 k, .int .i64 n, .int .i64 r, .bool b]] (W5 a s m l) (.tuple #[.agg (stepW ⟨a, s, m, l⟩ k n r b).row.toArray, .bool true]) (stepW ⟨a, s, m, l⟩ k n r b).cells := by
  have e1 : stepW ⟨a, s, m, l⟩ k n r b = ⟨a, s, m, l⟩ := by
    simp only [stepW, takeW, ackW, probeW, nearW, h1, h7, h40, h41, if_true, if_false, ite_true, ite_false, reduceIte, Int.reduceEq, Bool.false_eq_true]
    try ((repeat' split) <;> first | rfl | (exfalso; omega) | (congr 1 <;> omega))
  have e2 : stepW ⟨a, s, m, l⟩ k n r b = ⟨a, s, m, l⟩ := by
    simp only [stepW, takeW, ackW, probeW, nearW, h1, h7, h40, h41, if_true, if_false, ite_true, ite_false, reduceIte, Int.reduceEq, Bool.false_eq_true]
    try ((repeat' split) <;> first | rfl | (exfalso; omega) | (congr 1 <;> omega))
  refine ActOk.cast (by rw [e1]; rfl) (by rw [e2]; rfl) (p0 a s m l k n r b ⟨⟨⟨⟨trivial, ?_⟩, ?_⟩, ?_⟩, ?_⟩)
  all_goals (first | trivial | assumption | (simp only [decide_eq_true_eq, decide_eq_false_iff_not, beq_eq_false_iff_ne, beq_iff_eq, Bool.not_eq_true', Bool.not_eq_false', bne_iff_ne, IntKind.wrap_i64]; omega) | (simp only [decide_eq_true_eq, decide_eq_false_iff_not]; assumption) | (simp_all; done))
set_option maxHeartbeats 4000000 in
theorem q1 (a s m l k n r : Int) (b : Bool) (i0 : 0 ≤ a) (i1 : a ≤ s) (i2 : s ≤ m) (i3 : m ≤ l + 1) (i4 : l ≤ 1000000000000) (n0 : -9223372036854775808 ≤ n) (n1 : n ≤ 9223372036854775807) (h1 : k = 1) (h2 : n < 0) : ActOk Try.prog 7 [.agg #[.int .i64 a, .int .i64 s, .int .i64 m, .int .i64 l], .agg #[.int .i64 k, .int .i64 n, .int .i64 r, .bool b]] (W5 a s m l) (.tuple #[.agg (stepW ⟨a, s, m, l⟩ k n r b).row.toArray, .bool true]) (stepW ⟨a, s, m, l⟩ k n r b).cells := by
  have e1 : stepW ⟨a, s, m, l⟩ k n r b = ⟨a, s, m, l⟩ := by
    simp only [stepW, takeW, ackW, probeW, nearW, h1, h2, if_true, if_false, ite_true, ite_false, reduceIte, Int.reduceEq, Bool.false_eq_true]
    try ((repeat' split) <;> first | rfl | (exfalso; omega) | (congr 1 <;> omega))
  have e2 : stepW ⟨a, s, m, l⟩ k n r b = ⟨a, s, m, l⟩ := by
    simp only [stepW, takeW, ackW, probeW, nearW, h1, h2, if_true, if_false, ite_true, ite_false, reduceIte, Int.reduceEq, Bool.false_eq_true]
    try ((repeat' split) <;> first | rfl | (exfalso; omega) | (congr 1 <;> omega))
  refine ActOk.cast (by rw [e1]; rfl) (by rw [e2]; rfl) (p1 a s m l k n r b ⟨⟨⟨⟨trivial, ?_⟩, ?_⟩, ?_⟩, ?_⟩)
  all_goals (first | trivial | assumption | (simp only [decide_eq_true_eq, decide_eq_false_iff_not, beq_eq_false_iff_ne, beq_iff_eq, Bool.not_eq_true', Bool.not_eq_false', bne_iff_ne, IntKind.wrap_i64]; omega) | (simp only [decide_eq_true_eq, decide_eq_false_iff_not]; assumption) | (simp_all; done))
set_option maxHeartbeats 4000000 in
theorem q2 (a s m l k n r : Int) (b : Bool) (i0 : 0 ≤ a) (i1 : a ≤ s) (i2 : s ≤ m) (i3 : m ≤ l + 1) (i4 : l ≤ 1000000000000) (n0 : -9223372036854775808 ≤ n) (n1 : n ≤ 9223372036854775807) (h1 : k = 1) (h2 : ¬ (n < 0)) (h3 : ¬ (0 < (l - s))) (h6 : 0 < n) : ActOk Try.prog 7 [.agg #[.int .i64 a, .int .i64 s, .int .i64 m, .int .i64 l], .agg #[.int .i64 k, .int .i64 n, .int .i64 r, .bool b]] (W5 a s m l) (.tuple #[.agg (stepW ⟨a, s, m, l⟩ k n r b).row.toArray, .bool true]) (stepW ⟨a, s, m, l⟩ k n r b).cells := by
  have e1 : stepW ⟨a, s, m, l⟩ k n r b = ⟨a, s, m, l⟩ := by
    simp only [stepW, takeW, ackW, probeW, nearW, h1, h2, h3, h6, if_true, if_false, ite_true, ite_false, reduceIte, Int.reduceEq, Bool.false_eq_true]
    try ((repeat' split) <;> first | rfl | (exfalso; omega) | (congr 1 <;> omega))
  have e2 : stepW ⟨a, s, m, l⟩ k n r b = ⟨a, s, m, l⟩ := by
    simp only [stepW, takeW, ackW, probeW, nearW, h1, h2, h3, h6, if_true, if_false, ite_true, ite_false, reduceIte, Int.reduceEq, Bool.false_eq_true]
    try ((repeat' split) <;> first | rfl | (exfalso; omega) | (congr 1 <;> omega))
  refine ActOk.cast (by rw [e1]; rfl) (by rw [e2]; rfl) (p2 a s m l k n r b ⟨⟨⟨⟨⟨⟨⟨⟨⟨⟨trivial, ?_⟩, ?_⟩, ?_⟩, ?_⟩, ?_⟩, ?_⟩, ?_⟩, ?_⟩, ?_⟩, ?_⟩)
  all_goals (first | trivial | assumption | (simp only [decide_eq_true_eq, decide_eq_false_iff_not, beq_eq_false_iff_ne, beq_iff_eq, Bool.not_eq_true', Bool.not_eq_false', bne_iff_ne, IntKind.wrap_i64]; omega) | (simp only [decide_eq_true_eq, decide_eq_false_iff_not]; assumption) | (simp_all; done))
set_option maxHeartbeats 4000000 in
theorem q3 (a s m l k n r : Int) (b : Bool) (i0 : 0 ≤ a) (i1 : a ≤ s) (i2 : s ≤ m) (i3 : m ≤ l + 1) (i4 : l ≤ 1000000000000) (n0 : -9223372036854775808 ≤ n) (n1 : n ≤ 9223372036854775807) (h1 : k = 1) (h2 : ¬ (n < 0)) (h3 : 0 < (l - s)) (h4 : (l - s) < n) : ActOk Try.prog 7 [.agg #[.int .i64 a, .int .i64 s, .int .i64 m, .int .i64 l], .agg #[.int .i64 k, .int .i64 n, .int .i64 r, .bool b]] (W5 a s m l) (.tuple #[.agg (stepW ⟨a, s, m, l⟩ k n r b).row.toArray, .bool true]) (stepW ⟨a, s, m, l⟩ k n r b).cells := by
  have e1 : stepW ⟨a, s, m, l⟩ k n r b = ⟨a, s, m, l⟩ := by
    simp only [stepW, takeW, ackW, probeW, nearW, h1, h2, h3, h4, if_true, if_false, ite_true, ite_false, reduceIte, Int.reduceEq, Bool.false_eq_true]
    try ((repeat' split) <;> first | rfl | (exfalso; omega) | (congr 1 <;> omega))
  have e2 : stepW ⟨a, s, m, l⟩ k n r b = ⟨a, s, m, l⟩ := by
    simp only [stepW, takeW, ackW, probeW, nearW, h1, h2, h3, h4, if_true, if_false, ite_true, ite_false, reduceIte, Int.reduceEq, Bool.false_eq_true]
    try ((repeat' split) <;> first | rfl | (exfalso; omega) | (congr 1 <;> omega))
  refine ActOk.cast (by rw [e1]; rfl) (by rw [e2]; rfl) (p3 a s m l k n r b ⟨⟨⟨⟨⟨⟨⟨⟨⟨⟨⟨trivial, ?_⟩, ?_⟩, ?_⟩, ?_⟩, ?_⟩, ?_⟩, ?_⟩, ?_⟩, ?_⟩, ?_⟩, ?_⟩)
  all_goals (first | trivial | assumption | (simp only [decide_eq_true_eq, decide_eq_false_iff_not, beq_eq_false_iff_ne, beq_iff_eq, Bool.not_eq_true', Bool.not_eq_false', bne_iff_ne, IntKind.wrap_i64]; omega) | (simp only [decide_eq_true_eq, decide_eq_false_iff_not]; assumption) | (simp_all; done))
set_option maxHeartbeats 4000000 in
theorem q4 (a s m l k n r : Int) (b : Bool) (i0 : 0 ≤ a) (i1 : a ≤ s) (i2 : s ≤ m) (i3 : m ≤ l + 1) (i4 : l ≤ 1000000000000) (n0 : -9223372036854775808 ≤ n) (n1 : n ≤ 9223372036854775807) (h1 : k = 1) (h2 : ¬ (n < 0)) (h3 : ¬ (0 < (l - s))) (h6 : ¬ (0 < n)) : ActOk Try.prog 7 [.agg #[.int .i64 a, .int .i64 s, .int .i64 m, .int .i64 l], .agg #[.int .i64 k, .int .i64 n, .int .i64 r, .bool b]] (W5 a s m l) (.tuple #[.agg (stepW ⟨a, s, m, l⟩ k n r b).row.toArray, .bool true]) (stepW ⟨a, s, m, l⟩ k n r b).cells := by
  have e1 : stepW ⟨a, s, m, l⟩ k n r b = ⟨a, s + n, m, l⟩ := by
    simp only [stepW, takeW, ackW, probeW, nearW, h1, h2, h3, h6, if_true, if_false, ite_true, ite_false, reduceIte, Int.reduceEq, Bool.false_eq_true]
    try ((repeat' split) <;> first | rfl | (exfalso; omega) | (congr 1 <;> omega))
  have e2 : stepW ⟨a, s, m, l⟩ k n r b = ⟨a, s + n, m, l⟩ := by
    simp only [stepW, takeW, ackW, probeW, nearW, h1, h2, h3, h6, if_true, if_false, ite_true, ite_false, reduceIte, Int.reduceEq, Bool.false_eq_true]
    try ((repeat' split) <;> first | rfl | (exfalso; omega) | (congr 1 <;> omega))
  refine ActOk.cast (by rw [e1]; rfl) (by rw [e2]; rfl) (p4 a s m l k n r b ⟨⟨⟨⟨⟨⟨⟨⟨⟨⟨⟨⟨⟨⟨⟨⟨trivial, ?_⟩, ?_⟩, ?_⟩, ?_⟩, ?_⟩, ?_⟩, ?_⟩, ?_⟩, ?_⟩, ?_⟩, ?_⟩, ?_⟩, ?_⟩, ?_⟩, ?_⟩, ?_⟩)
  all_goals (first | trivial | assumption | (simp only [decide_eq_true_eq, decide_eq_false_iff_not, beq_eq_false_iff_ne, beq_iff_eq, Bool.not_eq_true', Bool.not_eq_false', bne_iff_ne, IntKind.wrap_i64]; omega) | (simp only [decide_eq_true_eq, decide_eq_false_iff_not]; assumption) | (simp_all; done))
set_option maxHeartbeats 4000000 in
theorem q5 (a s m l k n r : Int) (b : Bool) (i0 : 0 ≤ a) (i1 : a ≤ s) (i2 : s ≤ m) (i3 : m ≤ l + 1) (i4 : l ≤ 1000000000000) (n0 : -9223372036854775808 ≤ n) (n1 : n ≤ 9223372036854775807) (h1 : k = 1) (h2 : ¬ (n < 0)) (h3 : 0 < (l - s)) (h4 : ¬ ((l - s) < n)) (h5 : m < (s + n)) : ActOk Try.prog 7 [.agg #[.int .i64 a, .int .i64 s, .int .i64 m, .int .i64 l], .agg #[.int .i64 k, .int .i64 n, .int .i64 r, .bool b]] (W5 a s m l) (.tuple #[.agg (stepW ⟨a, s, m, l⟩ k n r b).row.toArray, .bool true]) (stepW ⟨a, s, m, l⟩ k n r b).cells := by
  have e1 : stepW ⟨a, s, m, l⟩ k n r b = ⟨a, s + n, s + n, l⟩ := by
    simp only [stepW, takeW, ackW, probeW, nearW, h1, h2, h3, h4, h5, if_true, if_false, ite_true, ite_false, reduceIte, Int.reduceEq, Bool.false_eq_true]
    try ((repeat' split) <;> first | rfl | (exfalso; omega) | (congr 1 <;> omega))
  have e2 : stepW ⟨a, s, m, l⟩ k n r b = ⟨a, s + n, s + n, l⟩ := by
    simp only [stepW, takeW, ackW, probeW, nearW, h1, h2, h3, h4, h5, if_true, if_false, ite_true, ite_false, reduceIte, Int.reduceEq, Bool.false_eq_true]
    try ((repeat' split) <;> first | rfl | (exfalso; omega) | (congr 1 <;> omega))
  refine ActOk.cast (by rw [e1]; rfl) (by rw [e2]; rfl) (p5 a s m l k n r b ⟨⟨⟨⟨⟨⟨⟨⟨⟨⟨⟨⟨⟨⟨⟨⟨⟨trivial, ?_⟩, ?_⟩, ?_⟩, ?_⟩, ?_⟩, ?_⟩, ?_⟩, ?_⟩, ?_⟩, ?_⟩, ?_⟩, ?_⟩, ?_⟩, ?_⟩, ?_⟩, ?_⟩, ?_⟩)
  all_goals (first | trivial | assumption | (simp only [decide_eq_true_eq, decide_eq_false_iff_not, beq_eq_false_iff_ne, beq_iff_eq, Bool.not_eq_true', Bool.not_eq_false', bne_iff_ne, IntKind.wrap_i64]; omega) | (simp only [decide_eq_true_eq, decide_eq_false_iff_not]; assumption) | (simp_all; done))
set_option maxHeartbeats 4000000 in
theorem q6 (a s m l k n r : Int) (b : Bool) (i0 : 0 ≤ a) (i1 : a ≤ s) (i2 : s ≤ m) (i3 : m ≤ l + 1) (i4 : l ≤ 1000000000000) (n0 : -9223372036854775808 ≤ n) (n1 : n ≤ 9223372036854775807) (h1 : k = 1) (h2 : ¬ (n < 0)) (h3 : 0 < (l - s)) (h4 : ¬ ((l - s) < n)) (h5 : ¬ (m < (s + n))) : ActOk Try.prog 7 [.agg #[.int .i64 a, .int .i64 s, .int .i64 m, .int .i64 l], .agg #[.int .i64 k, .int .i64 n, .int .i64 r, .bool b]] (W5 a s m l) (.tuple #[.agg (stepW ⟨a, s, m, l⟩ k n r b).row.toArray, .bool true]) (stepW ⟨a, s, m, l⟩ k n r b).cells := by
  have e1 : stepW ⟨a, s, m, l⟩ k n r b = ⟨a, s + n, m, l⟩ := by
    simp only [stepW, takeW, ackW, probeW, nearW, h1, h2, h3, h4, h5, if_true, if_false, ite_true, ite_false, reduceIte, Int.reduceEq, Bool.false_eq_true]
    try ((repeat' split) <;> first | rfl | (exfalso; omega) | (congr 1 <;> omega))
  have e2 : stepW ⟨a, s, m, l⟩ k n r b = ⟨a, s + n, m, l⟩ := by
    simp only [stepW, takeW, ackW, probeW, nearW, h1, h2, h3, h4, h5, if_true, if_false, ite_true, ite_false, reduceIte, Int.reduceEq, Bool.false_eq_true]
    try ((repeat' split) <;> first | rfl | (exfalso; omega) | (congr 1 <;> omega))
  refine ActOk.cast (by rw [e1]; rfl) (by rw [e2]; rfl) (p6 a s m l k n r b ⟨⟨⟨⟨⟨⟨⟨⟨⟨⟨⟨⟨⟨⟨⟨⟨⟨trivial, ?_⟩, ?_⟩, ?_⟩, ?_⟩, ?_⟩, ?_⟩, ?_⟩, ?_⟩, ?_⟩, ?_⟩, ?_⟩, ?_⟩, ?_⟩, ?_⟩, ?_⟩, ?_⟩, ?_⟩)
  all_goals (first | trivial | assumption | (simp only [decide_eq_true_eq, decide_eq_false_iff_not, beq_eq_false_iff_ne, beq_iff_eq, Bool.not_eq_true', Bool.not_eq_false', bne_iff_ne, IntKind.wrap_i64]; omega) | (simp only [decide_eq_true_eq, decide_eq_false_iff_not]; assumption) | (simp_all; done))
set_option maxHeartbeats 4000000 in
theorem q7 (a s m l k n r : Int) (b : Bool) (i0 : 0 ≤ a) (i1 : a ≤ s) (i2 : s ≤ m) (i3 : m ≤ l + 1) (i4 : l ≤ 1000000000000) (n0 : -9223372036854775808 ≤ n) (n1 : n ≤ 9223372036854775807) (h1 : ¬ (k = 1)) (h7 : k = 2) (h8 : ¬ (b = true)) (h30 : ¬ (n < 0)) (h31 : r < 0) : ActOk Try.prog 7 [.agg #[.int .i64 a, .int .i64 s, .int .i64 m, .int .i64 l], .agg #[.int .i64 k, .int .i64 n, .int .i64 r, .bool b]] (W5 a s m l) (.tuple #[.agg (stepW ⟨a, s, m, l⟩ k n r b).row.toArray, .bool true]) (stepW ⟨a, s, m, l⟩ k n r b).cells := by
  have e1 : stepW ⟨a, s, m, l⟩ k n r b = ⟨a, s, m, l⟩ := by
    simp only [stepW, takeW, ackW, probeW, nearW, h1, h7, h8, h30, h31, if_true, if_false, ite_true, ite_false, reduceIte, Int.reduceEq, Bool.false_eq_true]
    try ((repeat' split) <;> first | rfl | (exfalso; omega) | (congr 1 <;> omega))
  have e2 : stepW ⟨a, s, m, l⟩ k n r b = ⟨a, s, m, l⟩ := by
    simp only [stepW, takeW, ackW, probeW, nearW, h1, h7, h8, h30, h31, if_true, if_false, ite_true, ite_false, reduceIte, Int.reduceEq, Bool.false_eq_true]
    try ((repeat' split) <;> first | rfl | (exfalso; omega) | (congr 1 <;> omega))
  refine ActOk.cast (by rw [e1]; rfl) (by rw [e2]; rfl) (p7 a s m l k n r b ⟨⟨⟨⟨⟨⟨⟨⟨trivial, ?_⟩, ?_⟩, ?_⟩, ?_⟩, ?_⟩, ?_⟩, ?_⟩, ?_⟩)
  all_goals (first | trivial | assumption | (simp only [decide_eq_true_eq, decide_eq_false_iff_not, beq_eq_false_iff_ne, beq_iff_eq, Bool.not_eq_true', Bool.not_eq_false', bne_iff_ne, IntKind.wrap_i64]; omega) | (simp only [decide_eq_true_eq, decide_eq_false_iff_not]; assumption) | (simp_all; done))
set_option maxHeartbeats 4000000 in
theorem q8 (a s m l k n r : Int) (b : Bool) (i0 : 0 ≤ a) (i1 : a ≤ s) (i2 : s ≤ m) (i3 : m ≤ l + 1) (i4 : l ≤ 1000000000000) (n0 : -9223372036854775808 ≤ n) (n1 : n ≤ 9223372036854775807) (h1 : ¬ (k = 1)) (h7 : k = 2) (h8 : ¬ (b = true)) (h30 : n < 0) : ActOk Try.prog 7 [.agg #[.int .i64 a, .int .i64 s, .int .i64 m, .int .i64 l], .agg #[.int .i64 k, .int .i64 n, .int .i64 r, .bool b]] (W5 a s m l) (.tuple #[.agg (stepW ⟨a, s, m, l⟩ k n r b).row.toArray, .bool true]) (stepW ⟨a, s, m, l⟩ k n r b).cells := by
  have e1 : stepW ⟨a, s, m, l⟩ k n r b = ⟨a, s, m, l⟩ := by
    simp only [stepW, takeW, ackW, probeW, nearW, h1, h7, h8, h30, if_true, if_false, ite_true, ite_false, reduceIte, Int.reduceEq, Bool.false_eq_true]
    try ((repeat' split) <;> first | rfl | (exfalso; omega) | (congr 1 <;> omega))
  have e2 : stepW ⟨a, s, m, l⟩ k n r b = ⟨a, s, m, l⟩ := by
    simp only [stepW, takeW, ackW, probeW, nearW, h1, h7, h8, h30, if_true, if_false, ite_true, ite_false, reduceIte, Int.reduceEq, Bool.false_eq_true]
    try ((repeat' split) <;> first | rfl | (exfalso; omega) | (congr 1 <;> omega))
  refine ActOk.cast (by rw [e1]; rfl) (by rw [e2]; rfl) (p8 a s m l k n r b ⟨⟨⟨⟨⟨⟨trivial, ?_⟩, ?_⟩, ?_⟩, ?_⟩, ?_⟩, ?_⟩)
  all_goals (first | trivial | assumption | (simp only [decide_eq_true_eq, decide_eq_false_iff_not, beq_eq_false_iff_ne, beq_iff_eq, Bool.not_eq_true', Bool.not_eq_false', bne_iff_ne, IntKind.wrap_i64]; omega) | (simp only [decide_eq_true_eq, decide_eq_false_iff_not]; assumption) | (simp_all; done))
set_option maxHeartbeats 4000000 in
theorem q9 (a s m l k n r : Int) (b : Bool) (i0 : 0 ≤ a) (i1 : a ≤ s) (i2 : s ≤ m) (i3 : m ≤ l + 1) (i4 : l ≤ 1000000000000) (n0 : -9223372036854775808 ≤ n) (n1 : n ≤ 9223372036854775807) (h1 : ¬ (k = 1)) (h7 : k = 2) (h8 : b = true) (h9 : ¬ ((-1000) ≤ n)) : ActOk Try.prog 7 [.agg #[.int .i64 a, .int .i64 s, .int .i64 m, .int .i64 l], .agg #[.int .i64 k, .int .i64 n, .int .i64 r, .bool b]] (W5 a s m l) (.tuple #[.agg (stepW ⟨a, s, m, l⟩ k n r b).row.toArray, .bool true]) (stepW ⟨a, s, m, l⟩ k n r b).cells := by
  have e1 : stepW ⟨a, s, m, l⟩ k n r b = ⟨a, s, m, l⟩ := by
    simp only [stepW, takeW, ackW, probeW, nearW, h1, h7, h8, h9, if_true, if_false, ite_true, ite_false, reduceIte, Int.reduceEq, Bool.false_eq_true]
    try ((repeat' split) <;> first | rfl | (exfalso; omega) | (congr 1 <;> omega))
  have e2 : stepW ⟨a, s, m, l⟩ k n r b = ⟨a, s, m, l⟩ := by
    simp only [stepW, takeW, ackW, probeW, nearW, h1, h7, h8, h9, if_true, if_false, ite_true, ite_false, reduceIte, Int.reduceEq, Bool.false_eq_true]
    try ((repeat' split) <;> first | rfl | (exfalso; omega) | (congr 1 <;> omega))
  refine ActOk.cast (by rw [e1]; rfl) (by rw [e2]; rfl) (p9 a s m l k n r b ⟨⟨⟨⟨⟨⟨⟨trivial, ?_⟩, ?_⟩, ?_⟩, ?_⟩, ?_⟩, ?_⟩, ?_⟩)
  all_goals (first | trivial | assumption | (simp only [decide_eq_true_eq, decide_eq_false_iff_not, beq_eq_false_iff_ne, beq_iff_eq, Bool.not_eq_true', Bool.not_eq_false', bne_iff_ne, IntKind.wrap_i64]; omega) | (simp only [decide_eq_true_eq, decide_eq_false_iff_not]; assumption) | (simp_all; done))

end wn
end Go.Proofs.Ythgiflgofdmamaa
