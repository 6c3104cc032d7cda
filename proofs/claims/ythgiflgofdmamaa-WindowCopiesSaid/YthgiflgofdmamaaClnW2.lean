/- Read off the code by the clean reading. -/
import Derived.Test.YthgiflgofdmamaaClnWa
import Derived.Test.YthgiflgofdmamaaRows
import Derived.WalkKit
import Derived.ProofKit
import Derived.Below
import Derived.IntWalk
set_option linter.unusedVariables false
set_option linter.unusedSimpArgs false
set_option linter.deprecated false
set_option maxRecDepth 100000
namespace Go.Proofs.Ythgiflgofdmamaa
open Go.ChangeShapes Go.WideShapes Go.ChangeAt Go.RowKit Go.Cln
namespace wn
set_option linter.unusedVariables false
set_option linter.unusedSimpArgs false
noncomputable section
theorem p10 (a s m l k n r : Int) (b : Bool) (hp : ((((((((((True ∧ decide (k = 1) = false) ∧ decide (k = 2) = true) ∧ b = false) ∧ True) ∧ decide (n < 0) = false) ∧ decide (r < 0) = false) ∧ decide (65535 < r) = true) ∧ decide (n < 0) = false) ∧ decide (r < 0) = false) ∧ decide (65535 < r) = true)) : ActOk Try.prog 7 [.agg #[.int .i64 a, .int .i64 s, .int .i64 m, .int .i64 l], .agg #[.int .i64 k, .int .i64 n, .int .i64 r, .bool b]] (W5 a s m l) (.tuple #[.agg #[.int .i64 (a), .int .i64 (s), .int .i64 (m), .int .i64 (l)], .bool (true)]) ([.int .i64 (a), .int .i64 (s), .int .i64 (m), .int .i64 (l), .bool (true)]) :=
  ActOk.of_run pg K0_ok (n := 200) (t' := 0) (orc := [some false, some true, some false, none, none, none, none, none, none, none, some false, none, none, some false, none, none, some true, some false, none, none, some false, none, none, some true]) (by kernel_rfl) hp rfl rfl rfl rfl
theorem p11 (a s m l k n r : Int) (b : Bool) (hp : ((((((((((((True ∧ decide (k = 1) = false) ∧ decide (k = 2) = true) ∧ b = true) ∧ decide ((-1000) ≤ n) = true) ∧ decide (n ≤ 100000) = false) ∧ True) ∧ decide (n < 0) = false) ∧ decide (r < 0) = false) ∧ decide (65535 < r) = true) ∧ decide (n < 0) = false) ∧ decide (r < 0) = false) ∧ decide (65535 < r) = true)) : ActOk Try.prog 7 [.agg #[.int .i64 a, .int .i64 s, .int .i64 m, .int .i64 l], .agg #[.int .i64 k, .int .i64 n, .int .i64 r, .bool b]] (W5 a s m l) (.tuple #[.agg #[.int .i64 (a), .int .i64 (s), .int .i64 (m), .int .i64 (l)], .bool (true)]) ([.int .i64 (a), .int .i64 (s), .int .i64 (m), .int .i64 (l), .bool (true)]) :=
  ActOk.of_run pg K0_ok (n := 200) (t' := 0) (orc := [some false, some true, some true, none, none, some true, none, none, some false, none, some false, none, none, some false, none, none, some true, some false, none, none, some false, none, none, some true]) (by kernel_rfl) hp rfl rfl rfl rfl
theorem p12 (a s m l k n r : Int) (b : Bool) (hp : (((((((((True ∧ decide (k = 1) = false) ∧ decide (k = 2) = true) ∧ b = true) ∧ decide ((-1000) ≤ n) = true) ∧ decide (n ≤ 100000) = true) ∧ IntKind.i64.wrap (n + a) = n + a) ∧ True) ∧ decide ((n + a) < 0) = true) ∧ decide ((n + a) < 0) = true)) : ActOk Try.prog 7 [.agg #[.int .i64 a, .int .i64 s, .int .i64 m, .int .i64 l], .agg #[.int .i64 k, .int .i64 n, .int .i64 r, .bool b]] (W5 a s m l) (.tuple #[.agg #[.int .i64 (a), .int .i64 (s), .int .i64 (m), .int .i64 (l)], .bool (true)]) ([.int .i64 (a), .int .i64 (s), .int .i64 (m), .int .i64 (l), .bool (true)]) :=
  ActOk.of_run pg K0_ok (n := 200) (t' := 0) (orc := [some false, some true, some true, none, none, some true, none, none, some true, some true, none, some true, none, none, none, none, none, none, some true]) (by kernel_rfl) hp rfl rfl rfl rfl
theorem p13 (a s m l k n r : Int) (b : Bool) (hp : (((((((((((True ∧ decide (k = 1) = false) ∧ decide (k = 2) = true) ∧ b = true) ∧ decide ((-1000) ≤ n) = true) ∧ decide (n ≤ 100000) = true) ∧ IntKind.i64.wrap (n + a) = n + a) ∧ True) ∧ decide ((n + a) < 0) = false) ∧ decide (r < 0) = true) ∧ decide ((n + a) < 0) = false) ∧ decide (r < 0) = true)) : ActOk Try.prog 7 [.agg #[.int .i64 a, .int .i64 s, .int .i64 m, .int .i64 l], .agg #[.int .i64 k, .int .i64 n, .int .i64 r, .bool b]] (W5 a s m l) (.tuple #[.agg #[.int .i64 (a), .int .i64 (s), .int .i64 (m), .int .i64 (l)], .bool (true)]) ([.int .i64 (a), .int .i64 (s), .int .i64 (m), .int .i64 (l), .bool (true)]) :=
  ActOk.of_run pg K0_ok (n := 200) (t' := 0) (orc := [some false, some true, some true, none, none, some true, none, none, some true, some true, none, some false, none, none, some true, none, none, none, some false, none, none, some true]) (by kernel_rfl) hp rfl rfl rfl rfl
theorem p14 (a s m l k n r : Int) (b : Bool) (hp : (((((((((((((True ∧ decide (k = 1) = false) ∧ decide (k = 2) = true) ∧ b = true) ∧ decide ((-1000) ≤ n) = true) ∧ decide (n ≤ 100000) = true) ∧ IntKind.i64.wrap (n + a) = n + a) ∧ True) ∧ decide ((n + a) < 0) = false) ∧ decide (r < 0) = false) ∧ decide (65535 < r) = true) ∧ decide ((n + a) < 0) = false) ∧ decide (r < 0) = false) ∧ decide (65535 < r) = true)) : ActOk Try.prog 7 [.agg #[.int .i64 a, .int .i64 s, .int .i64 m, .int .i64 l], .agg #[.int .i64 k, .int .i64 n, .int .i64 r, .bool b]] (W5 a s m l) (.tuple #[.agg #[.int .i64 (a), .int .i64 (s), .int .i64 (m), .int .i64 (l)], .bool (true)]) ([.int .i64 (a), .int .i64 (s), .int .i64 (m), .int .i64 (l), .bool (true)]) :=
  ActOk.of_run pg K0_ok (n := 200) (t' := 0) (orc := [some false, some true, some true, none, none, some true, none, none, some true, some true, none, some false, none, none, some false, none, none, some true, some false, none, none, some false, none, none, some true]) (by kernel_rfl) hp rfl rfl rfl rfl
theorem p15 (a s m l k n r : Int) (b : Bool) (hp : ((((((((((((True ∧ decide (k = 1) = false) ∧ decide (k = 2) = true) ∧ b = false) ∧ True) ∧ decide (n < 0) = false) ∧ decide (r < 0) = false) ∧ decide (65535 < r) = false) ∧ decide (m < n) = true) ∧ decide (n < 0) = false) ∧ decide (r < 0) = false) ∧ decide (65535 < r) = false) ∧ decide (m < n) = true)) : ActOk Try.prog 7 [.agg #[.int .i64 a, .int .i64 s, .int .i64 m, .int .i64 l], .agg #[.int .i64 k, .int .i64 n, .int .i64 r, .bool b]] (W5 a s m l) (.tuple #[.agg #[.int .i64 (a), .int .i64 (s), .int .i64 (m), .int .i64 (l)], .bool (true)]) ([.int .i64 (a), .int .i64 (s), .int .i64 (m), .int .i64 (l), .bool (true)]) :=
  ActOk.of_run pg K0_ok (n := 200) (t' := 0) (orc := [some false, some true, some false, none, none, none, none, none, none, none, some false, none, none, some false, none, none, some false, some true, some false, none, none, some false, none, none, some false, some true]) (by kernel_rfl) hp rfl rfl rfl rfl
theorem p16 (a s m l k n r : Int) (b : Bool) (hp : ((((((((((((((True ∧ decide (k = 1) = false) ∧ decide (k = 2) = true) ∧ b = true) ∧ decide ((-1000) ≤ n) = true) ∧ decide (n ≤ 100000) = false) ∧ True) ∧ decide (n < 0) = false) ∧ decide (r < 0) = false) ∧ decide (65535 < r) = false) ∧ decide (m < n) = true) ∧ decide (n < 0) = false) ∧ decide (r < 0) = false) ∧ decide (65535 < r) = false) ∧ decide (m < n) = true)) : ActOk Try.prog 7 [.agg #[.int .i64 a, .int .i64 s, .int .i64 m, .int .i64 l], .agg #[.int .i64 k, .int .i64 n, .int .i64 r, .bool b]] (W5 a s m l) (.tuple #[.agg #[.int .i64 (a), .int .i64 (s), .int .i64 (m), .int .i64 (l)], .bool (true)]) ([.int .i64 (a), .int .i64 (s), .int .i64 (m), .int .i64 (l), .bool (true)]) :=
  ActOk.of_run pg K0_ok (n := 200) (t' := 0) (orc := [some false, some true, some true, none, none, some true, none, none, some false, none, some false, none, none, some false, none, none, some false, some true, some false, none, none, some false, none, none, some false, some true]) (by kernel_rfl) hp rfl rfl rfl rfl
theorem p17 (a s m l k n r : Int) (b : Bool) (hp : (((((((((((((((True ∧ decide (k = 1) = false) ∧ decide (k = 2) = true) ∧ b = true) ∧ decide ((-1000) ≤ n) = true) ∧ decide (n ≤ 100000) = true) ∧ IntKind.i64.wrap (n + a) = n + a) ∧ True) ∧ decide ((n + a) < 0) = false) ∧ decide (r < 0) = false) ∧ decide (65535 < r) = false) ∧ decide (m < (n + a)) = true) ∧ decide ((n + a) < 0) = false) ∧ decide (r < 0) = false) ∧ decide (65535 < r) = false) ∧ decide (m < (n + a)) = true)) : ActOk Try.prog 7 [.agg #[.int .i64 a, .int .i64 s, .int .i64 m, .int .i64 l], .agg #[.int .i64 k, .int .i64 n, .int .i64 r, .bool b]] (W5 a s m l) (.tuple #[.agg #[.int .i64 (a), .int .i64 (s), .int .i64 (m), .int .i64 (l)], .bool (true)]) ([.int .i64 (a), .int .i64 (s), .int .i64 (m), .int .i64 (l), .bool (true)]) :=
  ActOk.of_run pg K0_ok (n := 200) (t' := 0) (orc := [some false, some true, some true, none, none, some true, none, none, some true, some true, none, some false, none, none, some false, none, none, some false, some true, some false, none, none, some false, none, none, some false, some true]) (by kernel_rfl) hp rfl rfl rfl rfl
theorem p18 (a s m l k n r : Int) (b : Bool) (hp : ((((((((((((((True ∧ decide (k = 1) = false) ∧ decide (k = 2) = true) ∧ b = false) ∧ True) ∧ decide (n < 0) = false) ∧ decide (r < 0) = false) ∧ decide (65535 < r) = false) ∧ decide (m < n) = false) ∧ decide (n < a) = true) ∧ decide (n < 0) = false) ∧ decide (r < 0) = false) ∧ decide (65535 < r) = false) ∧ decide (m < n) = false) ∧ decide (n < a) = true)) : ActOk Try.prog 7 [.agg #[.int .i64 a, .int .i64 s, .int .i64 m, .int .i64 l], .agg #[.int .i64 k, .int .i64 n, .int .i64 r, .bool b]] (W5 a s m l) (.tuple #[.agg #[.int .i64 (a), .int .i64 (s), .int .i64 (m), .int .i64 (l)], .bool (true)]) ([.int .i64 (a), .int .i64 (s), .int .i64 (m), .int .i64 (l), .bool (true)]) :=
  ActOk.of_run pg K0_ok (n := 200) (t' := 0) (orc := [some false, some true, some false, none, none, none, none, none, none, none, some false, none, none, some false, none, none, some false, some false, some true, some false, none, none, some false, none, none, some false, some false, some true]) (by kernel_rfl) hp rfl rfl rfl rfl
theorem p19 (a s m l k n r : Int) (b : Bool) (hp : (((((((((((((((((True ∧ decide (k = 1) = false) ∧ decide (k = 2) = true) ∧ b = true) ∧ decide ((-1000) ≤ n) = true) ∧ decide (n ≤ 100000) = true) ∧ IntKind.i64.wrap (n + a) = n + a) ∧ True) ∧ decide ((n + a) < 0) = false) ∧ decide (r < 0) = false) ∧ decide (65535 < r) = false) ∧ decide (m < (n + a)) = false) ∧ decide ((n + a) < a) = true) ∧ decide ((n + a) < 0) = false) ∧ decide (r < 0) = false) ∧ decide (65535 < r) = false) ∧ decide (m < (n + a)) = false) ∧ decide ((n + a) < a) = true)) : ActOk Try.prog 7 [.agg #[.int .i64 a, .int .i64 s, .int .i64 m, .int .i64 l], .agg #[.int .i64 k, .int .i64 n, .int .i64 r, .bool b]] (W5 a s m l) (.tuple #[.agg #[.int .i64 (a), .int .i64 (s), .int .i64 (m), .int .i64 (l)], .bool (true)]) ([.int .i64 (a), .int .i64 (s), .int .i64 (m), .int .i64 (l), .bool (true)]) :=
  ActOk.of_run pg K0_ok (n := 200) (t' := 0) (orc := [some false, some true, some true, none, none, some true, none, none, some true, some true, none, some false, none, none, some false, none, none, some false, some false, some true, some false, none, none, some false, none, none, some false, some false, some true]) (by kernel_rfl) hp rfl rfl rfl rfl
end

end wn
end Go.Proofs.Ythgiflgofdmamaa
namespace Go.Proofs.Ythgiflgofdmamaa
open Go.ChangeShapes Go.WideShapes Go.ChangeAt Go.RowKit Go.Cln
namespace wn
set_option linter.unusedVariables false
set_option linter.unusedSimpArgs false
set_option maxHeartbeats 4000000 in
theorem q10 (a s m l k n r : Int) (b : Bool) (i0 : 0 ≤ a) (i1 : a ≤ s) (i2 : s ≤ m) (i3 : m ≤ l + 1) (i4 : l ≤ 1000000000000) (n0 : -9223372036854775808 ≤ n) (n1 : n ≤ 9223372036854775807) (h1 : ¬ (k = 1)) (h7 : k = 2) (h8 : ¬ (b = true)) (h30 : ¬ (n < 0)) (h31 : ¬ (r < 0)) (h32 : 65535 < r) : ActOk Try.prog 7 [.agg #[.int .i64 a, .int .i64 s, .int .i64 m, .int .i64 l], .agg #[.int .i64 k, .int .i64 n, .int .i64 r, .bool b]] (W5 a s m l) (.tuple #[.agg (stepW ⟨a, s, m, l⟩ k n r b).row.toArray, .bool true]) (stepW ⟨a, s, m, l⟩ k n r b).cells := by
  have e1 : stepW ⟨a, s, m, l⟩ k n r b = ⟨a, s, m, l⟩ := by
    simp only [stepW, takeW, ackW, probeW, nearW, h1, h7, h8, h30, h31, h32, if_true, if_false, ite_true, ite_false, reduceIte, Int.reduceEq, Bool.false_eq_true]
    try ((repeat' split) <;> first | rfl | (exfalso; omega) | (congr 1 <;> omega))
  have e2 : stepW ⟨a, s, m, l⟩ k n r b = ⟨a, s, m, l⟩ := by
    simp only [stepW, takeW, ackW, probeW, nearW, h1, h7, h8, h30, h31, h32, if_true, if_false, ite_true, ite_false, reduceIte, Int.reduceEq, Bool.false_eq_true]
    try ((repeat' split) <;> first | rfl | (exfalso; omega) | (congr 1 <;> omega))
  refine ActOk.cast (by rw [e1]; rfl) (by rw [e2]; rfl) (p10 a s m l k n r b ⟨⟨⟨⟨⟨⟨⟨⟨⟨⟨trivial, ?_⟩, ?_⟩, ?_⟩, ?_⟩, ?_⟩, ?_⟩, ?_⟩, ?_⟩, ?_⟩, ?_⟩)
  all_goals (first | trivial | assumption | (simp only [decide_eq_true_eq, decide_eq_false_iff_not, beq_eq_false_iff_ne, beq_iff_eq, Bool.not_eq_true', Bool.not_eq_false', bne_iff_ne, IntKind.wrap_i64]; omega) | (simp only [decide_eq_true_eq, decide_eq_false_iff_not]; assumption) | (simp_all; done))
set_option maxHeartbeats 4000000 in
theorem q11 (a s m l k n r : Int) (b : Bool) (i0 : 0 ≤ a) (i1 : a ≤ s) (i2 : s ≤ m) (i3 : m ≤ l + 1) (i4 : l ≤ 1000000000000) (n0 : -9223372036854775808 ≤ n) (n1 : n ≤ 9223372036854775807) (h1 : ¬ (k = 1)) (h7 : k = 2) (h8 : b = true) (h9 : (-1000) ≤ n) (h10 : ¬ (n ≤ 100000)) (h21 : ¬ (r < 0)) (h22 : 65535 < r) : ActOk Try.prog 7 [.agg #[.int .i64 a, .int .i64 s, .int .i64 m, .int .i64 l], .agg #[.int .i64 k, .int .i64 n, .int .i64 r, .bool b]] (W5 a s m l) (.tuple #[.agg (stepW ⟨a, s, m, l⟩ k n r b).row.toArray, .bool true]) (stepW ⟨a, s, m, l⟩ k n r b).cells := by
  have e1 : stepW ⟨a, s, m, l⟩ k n r b = ⟨a, s, m, l⟩ := by
    simp only [stepW, takeW, ackW, probeW, nearW, h1, h7, h8, h9, h10, h21, h22, if_true, if_false, ite_true, ite_false, reduceIte, Int.reduceEq, Bool.false_eq_true]
    try ((repeat' split) <;> first | rfl | (exfalso; omega) | (congr 1 <;> omega))
  have e2 : stepW ⟨a, s, m, l⟩ k n r b = ⟨a, s, m, l⟩ := by
    simp only [stepW, takeW, ackW, probeW, nearW, h1, h7, h8, h9, h10, h21, h22, if_true, if_false, ite_true, ite_false, reduceIte, Int.reduceEq, Bool.false_eq_true]
    try ((repeat' split) <;> first | rfl | (exfalso; omega) | (congr 1 <;> omega))
  refine ActOk.cast (by rw [e1]; rfl) (by rw [e2]; rfl) (p11 a s m l k n r b ⟨⟨⟨⟨⟨⟨⟨⟨⟨⟨⟨⟨trivial, ?_⟩, ?_⟩, ?_⟩, ?_⟩, ?_⟩, ?_⟩, ?_⟩, ?_⟩, ?_⟩, ?_⟩, ?_⟩, ?_⟩)
  all_goals (first | trivial | assumption | (simp only [decide_eq_true_eq, decide_eq_false_iff_not, beq_eq_false_iff_ne, beq_iff_eq, Bool.not_eq_true', Bool.not_eq_false', bne_iff_ne, IntKind.wrap_i64]; omega) | (simp only [decide_eq_true_eq, decide_eq_false_iff_not]; assumption) | (simp_all; done))
set_option maxHeartbeats 4000000 in
theorem q12 (a s m l k n r : Int) (b : Bool) (i0 : 0 ≤ a) (i1 : a ≤ s) (i2 : s ≤ m) (i3 : m ≤ l + 1) (i4 : l ≤ 1000000000000) (n0 : -9223372036854775808 ≤ n) (n1 : n ≤ 9223372036854775807) (h1 : ¬ (k = 1)) (h7 : k = 2) (h8 : b = true) (h9 : (-1000) ≤ n) (h10 : n ≤ 100000) (h11 : (n + a) < 0) : ActOk Try.prog 7 [.agg #[.int .i64 a, .int .i64 s, .int .i64 m, .int .i64 l], .agg #[.int .i64 k, .int .i64 n, .int .i64 r, .bool b]] (W5 a s m l) (.tuple #[.agg (stepW ⟨a, s, m, l⟩ k n r b).row.toArray, .bool true]) (stepW ⟨a, s, m, l⟩ k n r b).cells := by
  have e1 : stepW ⟨a, s, m, l⟩ k n r b = ⟨a, s, m, l⟩ := by
    simp only [stepW, takeW, ackW, probeW, nearW, h1, h7, h8, h9, h10, h11, if_true, if_false, ite_true, ite_false, reduceIte, Int.reduceEq, Bool.false_eq_true]
    try ((repeat' split) <;> first | rfl | (exfalso; omega) | (congr 1 <;> omega))
  have e2 : stepW ⟨a, s, m, l⟩ k n r b = ⟨a, s, m, l⟩ := by
    simp only [stepW, takeW, ackW, probeW, nearW, h1, h7, h8, h9, h10, h11, if_true, if_false, ite_true, ite_false, reduceIte, Int.reduceEq, Bool.false_eq_true]
    try ((repeat' split) <;> first | rfl | (exfalso; omega) | (congr 1 <;> omega))
  refine ActOk.cast (by rw [e1]; rfl) (by rw [e2]; rfl) (p12 a s m l k n r b ⟨⟨⟨⟨⟨⟨⟨⟨⟨trivial, ?_⟩, ?_⟩, ?_⟩, ?_⟩, ?_⟩, ?_⟩, ?_⟩, ?_⟩, ?_⟩)
  all_goals (first | trivial | assumption | (simp only [decide_eq_true_eq, decide_eq_false_iff_not, beq_eq_false_iff_ne, beq_iff_eq, Bool.not_eq_true', Bool.not_eq_false', bne_iff_ne, IntKind.wrap_i64]; omega) | (simp only [decide_eq_true_eq, decide_eq_false_iff_not]; assumption) | (simp_all; done))
set_option maxHeartbeats 4000000 in
theorem q13 (a s m l k n r : Int) (b : Bool) (i0 : 0 ≤ a) (i1 : a ≤ s) (i2 : s ≤ m) (i3 : m ≤ l + 1) (i4 : l ≤ 1000000000000) (n0 : -9223372036854775808 ≤ n) (n1 : n ≤ 9223372036854775807) (h1 : ¬ (k = 1)) (h7 : k = 2) (h8 : b = true) (h9 : (-1000) ≤ n) (h10 : n ≤ 100000) (h11 : ¬ ((n + a) < 0)) (h12 : r < 0) : ActOk Try.prog 7 [.agg #[.int .i64 a, .int .i64 s, .int .i64 m, .int .i64 l], .agg #[.int .i64 k, .int .i64 n, .int .i64 r, .bool b]] (W5 a s m l) (.tuple #[.agg (stepW ⟨a, s, m, l⟩ k n r b).row.toArray, .bool true]) (stepW ⟨a, s, m, l⟩ k n r b).cells := by
  have e1 : stepW ⟨a, s, m, l⟩ k n r b = ⟨a, s, m, l⟩ := by
    simp only [stepW, takeW, ackW, probeW, nearW, h1, h7, h8, h9, h10, h11, h12, if_true, if_false, ite_true, ite_false, reduceIte, Int.reduceEq, Bool.false_eq_true]
    try ((repeat' split) <;> first | rfl | (exfalso; omega) | (congr 1 <;> omega))
  have e2 : stepW ⟨a, s, m, l⟩ k n r b = ⟨a, s, m, l⟩ := by
    simp only [stepW, takeW, ackW, probeW, nearW, h1, h7, h8, h9, h10, h11, h12, if_true, if_false, ite_true, ite_false, reduceIte, Int.reduceEq, Bool.false_eq_true]
    try ((repeat' split) <;> first | rfl | (exfalso; omega) | (congr 1 <;> omega))
  refine ActOk.cast (by rw [e1]; rfl) (by rw [e2]; rfl) (p13 a s m l k n r b ⟨⟨⟨⟨⟨⟨⟨⟨⟨⟨⟨trivial, ?_⟩, ?_⟩, ?_⟩, ?_⟩, ?_⟩, ?_⟩, ?_⟩, ?_⟩, ?_⟩, ?_⟩, ?_⟩)
  all_goals (first | trivial | assumption | (simp only [decide_eq_true_eq, decide_eq_false_iff_not, beq_eq_false_iff_ne, beq_iff_eq, Bool.not_eq_true', Bool.not_eq_false', bne_iff_ne, IntKind.wrap_i64]; omega) | (simp only [decide_eq_true_eq, decide_eq_false_iff_not]; assumption) | (simp_all; done))
set_option maxHeartbeats 4000000 in
theorem q14 (a s m l k n r : Int) (b : Bool) (i0 : 0 ≤ a) (i1 : a ≤ s) (i2 : s ≤ m) (i3 : m ≤ l + 1) (i4 : l ≤ 1000000000000) (n0 : -9223372036854775808 ≤ n) (n1 : n ≤ 9223372036854775807) (h1 : ¬ (k = 1)) (h7 : k = 2) (h8 : b = true) (h9 : (-1000) ≤ n) (h10 : n ≤ 100000) (h11 : ¬ ((n + a) < 0)) (h12 : ¬ (r < 0)) (h13 : 65535 < r) : ActOk Try.prog 7 [.agg #[.int .i64 a, .int .i64 s, .int .i64 m, .int .i64 l], .agg #[.int .i64 k, .int .i64 n, .int .i64 r, .bool b]] (W5 a s m l) (.tuple #[.agg (stepW ⟨a, s, m, l⟩ k n r b).row.toArray, .bool true]) (stepW ⟨a, s, m, l⟩ k n r b).cells := by
  have e1 : stepW ⟨a, s, m, l⟩ k n r b = ⟨a, s, m, l⟩ := by
    simp only [stepW, takeW, ackW, probeW, nearW, h1, h7, h8, h9, h10, h11, h12, h13, if_true, if_false, ite_true, ite_false, reduceIte, Int.reduceEq, Bool.false_eq_true]
    try ((repeat' split) <;> first | rfl | (exfalso; omega) | (congr 1 <;> omega))
  have e2 : stepW ⟨a, s, m, l⟩ k n r b = ⟨a, s, m, l⟩ := by
    simp only [stepW, takeW, ackW, probeW, nearW, h1, h7, h8, h9, h10, h11, h12, h13, if_true, if_false, ite_true, ite_false, reduceIte, Int.reduceEq, Bool.false_eq_true]
    try ((repeat' split) <;> first | rfl | (exfalso; omega) | (congr 1 <;> omega))
  refine ActOk.cast (by rw [e1]; rfl) (by rw [e2]; rfl) (p14 a s m l k n r b ⟨⟨⟨⟨⟨⟨⟨⟨⟨⟨⟨⟨⟨trivial, ?_⟩, ?_⟩, ?_⟩, ?_⟩, ?_⟩, ?_⟩, ?_⟩, ?_⟩, ?_⟩, ?_⟩, ?_⟩, ?_⟩, ?_⟩)
  all_goals (first | trivial | assumption | (simp only [decide_eq_true_eq, decide_eq_false_iff_not, beq_eq_false_iff_ne, beq_iff_eq, Bool.not_eq_true', Bool.not_eq_false', bne_iff_ne, IntKind.wrap_i64]; omega) | (simp only [decide_eq_true_eq, decide_eq_false_iff_not]; assumption) | (simp_all; done))
set_option maxHeartbeats 4000000 in
theorem q15 (a s m l k n r : Int) (b : Bool) (i0 : 0 ≤ a) (i1 : a ≤ s) (i2 : s ≤ m) (i3 : m ≤ l + 1) (i4 : l ≤ 1000000000000) (n0 : -9223372036854775808 ≤ n) (n1 : n ≤ 9223372036854775807) (h1 : ¬ (k = 1)) (h7 : k = 2) (h8 : ¬ (b = true)) (h30 : ¬ (n < 0)) (h31 : ¬ (r < 0)) (h32 : ¬ (65535 < r)) (h33 : m < n) : ActOk Try.prog 7 [.agg #[.int .i64 a, .int .i64 s, .int .i64 m, .int .i64 l], .agg #[.int .i64 k, .int .i64 n, .int .i64 r, .bool b]] (W5 a s m l) (.tuple #[.agg (stepW ⟨a, s, m, l⟩ k n r b).row.toArray, .bool true]) (stepW ⟨a, s, m, l⟩ k n r b).cells := by
  have e1 : stepW ⟨a, s, m, l⟩ k n r b = ⟨a, s, m, l⟩ := by
    simp only [stepW, takeW, ackW, probeW, nearW, h1, h7, h8, h30, h31, h32, h33, if_true, if_false, ite_true, ite_false, reduceIte, Int.reduceEq, Bool.false_eq_true]
    try ((repeat' split) <;> first | rfl | (exfalso; omega) | (congr 1 <;> omega))
  have e2 : stepW ⟨a, s, m, l⟩ k n r b = ⟨a, s, m, l⟩ := by
    simp only [stepW, takeW, ackW, probeW, nearW, h1, h7, h8, h30, h31, h32, h33, if_true, if_false, ite_true, ite_false, reduceIte, Int.reduceEq, Bool.false_eq_true]
    try ((repeat' split) <;> first | rfl | (exfalso; omega) | (congr 1 <;> omega))
  refine ActOk.cast (by rw [e1]; rfl) (by rw [e2]; rfl) (p15 a s m l k n r b ⟨⟨⟨⟨⟨⟨⟨⟨⟨⟨⟨⟨trivial, ?_⟩, ?_⟩, ?_⟩, ?_⟩, ?_⟩, ?_⟩, ?_⟩, ?_⟩, ?_⟩, ?_⟩, ?_⟩, ?_⟩)
  all_goals (first | trivial | assumption | (simp only [decide_eq_true_eq, decide_eq_false_iff_not, beq_eq_false_iff_ne, beq_iff_eq, Bool.not_eq_true', Bool.not_eq_false', bne_iff_ne, IntKind.wrap_i64]; omega) | (simp only [decide_eq_true_eq, decide_eq_false_iff_not]; assumption) | (simp_all; done))
set_option maxHeartbeats 4000000 in
theorem q16 (a s m l k n r : Int) (b : Bool) (i0 : 0 ≤ a) (i1 : a ≤ s) (i2 : s ≤ m) (i3 : m ≤ l + 1) (i4 : l ≤ 1000000000000) (n0 : -9223372036854775808 ≤ n) (n1 : n ≤ 9223372036854775807) (h1 : ¬ (k = 1)) (h7 : k = 2) (h8 : b = true) (h9 : (-1000) ≤ n) (h10 : ¬ (n ≤ 100000)) (h21 : ¬ (r < 0)) (h22 : ¬ (65535 < r)) (h23 : m < n) : ActOk Try.prog 7 [.agg #[.int .i64 a, .int .i64 s, .int .i64 m, .int .i64 l], .agg #[.int .i64 k, .int .i64 n, .int .i64 r, .bool b]] (W5 a s m l) (.tuple #[.agg (stepW ⟨a, s, m, l⟩ k n r b).row.toArray, .bool true]) (stepW ⟨a, s, m, l⟩ k n r b).cells := by
  have e1 : stepW ⟨a, s, m, l⟩ k n r b = ⟨a, s, m, l⟩ := by
    simp only [stepW, takeW, ackW, probeW, nearW, h1, h7, h8, h9, h10, h21, h22, h23, if_true, if_false, ite_true, ite_false, reduceIte, Int.reduceEq, Bool.false_eq_true]
    try ((repeat' split) <;> first | rfl | (exfalso; omega) | (congr 1 <;> omega))
  have e2 : stepW ⟨a, s, m, l⟩ k n r b = ⟨a, s, m, l⟩ := by
    simp only [stepW, takeW, ackW, probeW, nearW, h1, h7, h8, h9, h10, h21, h22, h23, if_true, if_false, ite_true, ite_false, reduceIte, Int.reduceEq, Bool.false_eq_true]
    try ((repeat' split) <;> first | rfl | (exfalso; omega) | (congr 1 <;> omega))
  refine ActOk.cast (by rw [e1]; rfl) (by rw [e2]; rfl) (p16 a s m l k n r b ⟨⟨⟨⟨⟨⟨⟨⟨⟨⟨⟨⟨⟨⟨trivial, ?_⟩, ?_⟩, ?_⟩, ?_⟩, ?_⟩, ?_⟩, ?_⟩, ?_⟩, ?_⟩, ?_⟩, ?_⟩, ?_⟩, ?_⟩, ?_⟩)
  all_goals (first | trivial | assumption | (simp only [decide_eq_true_eq, decide_eq_false_iff_not, beq_eq_false_iff_ne, beq_iff_eq, Bool.not_eq_true', Bool.not_eq_false', bne_iff_ne, IntKind.wrap_i64]; omega) | (simp only [decide_eq_true_eq, decide_eq_false_iff_not]; assumption) | (simp_all; done))
set_option maxHeartbeats 4000000 in
theorem q17 (a s m l k n r : Int) (b : Bool) (i0 : 0 ≤ a) (i1 : a ≤ s) (i2 : s ≤ m) (i3 : m ≤ l + 1) (i4 : l ≤ 1000000000000) (n0 : -9223372036854775808 ≤ n) (n1 : n ≤ 9223372036854775807) (h1 : ¬ (k = 1)) (h7 : k = 2) (h8 : b = true) (h9 : (-1000) ≤ n) (h10 : n ≤ 100000) (h11 : ¬ ((n + a) < 0)) (h12 : ¬ (r < 0)) (h13 : ¬ (65535 < r)) (h14 : m < (n + a)) : ActOk Try.prog 7 [.agg #[.int .i64 a, .int .i64 s, .int .i64 m, .int .i64 l], .agg #[.int .i64 k, .int .i64 n, .int .i64 r, .bool b]] (W5 a s m l) (.tuple #[.agg (stepW ⟨a, s, m, l⟩ k n r b).row.toArray, .bool true]) (stepW ⟨a, s, m, l⟩ k n r b).cells := by
  have e1 : stepW ⟨a, s, m, l⟩ k n r b = ⟨a, s, m, l⟩ := by
    simp only [stepW, takeW, ackW, probeW, nearW, h1, h7, h8, h9, h10, h11, h12, h13, h14, if_true, if_false, ite_true, ite_false, reduceIte, Int.reduceEq, Bool.false_eq_true]
    try ((repeat' split) <;> first | rfl | (exfalso; omega) | (congr 1 <;> omega))
  have e2 : stepW ⟨a, s, m, l⟩ k n r b = ⟨a, s, m, l⟩ := by
    simp only [stepW, takeW, ackW, probeW, nearW, h1, h7, h8, h9, h10, h11, h12, h13, h14, if_true, if_false, ite_true, ite_false, reduceIte, Int.reduceEq, Bool.false_eq_true]
    try ((repeat' split) <;> first | rfl | (exfalso; omega) | (congr 1 <;> omega))
  refine ActOk.cast (by rw [e1]; rfl) (by rw [e2]; rfl) (p17 a s m l k n r b ⟨⟨⟨⟨⟨⟨⟨⟨⟨⟨⟨⟨⟨⟨⟨trivial, ?_⟩, ?_⟩, ?_⟩, ?_⟩, ?_⟩, ?_⟩, ?_⟩, ?_⟩, ?_⟩, ?_⟩, ?_⟩, ?_⟩, ?_⟩, ?_⟩, ?_⟩)
  all_goals (first | trivial | assumption | (simp only [decide_eq_true_eq, decide_eq_false_iff_not, beq_eq_false_iff_ne, beq_iff_eq, Bool.not_eq_true', Bool.not_eq_false', bne_iff_ne, IntKind.wrap_i64]; omega) | (simp only [decide_eq_true_eq, decide_eq_false_iff_not]; assumption) | (simp_all; done))
set_option maxHeartbeats 4000000 in
theorem q18 (a s m l k n r : Int) (b : Bool) (i0 : 0 ≤ a) (i1 : a ≤ s) (i2 : s ≤ m) (i3 : m ≤ l + 1) (i4 : l ≤ 1000000000000) (n0 : -9223372036854775808 ≤ n) (n1 : n ≤ 9223372036854775807) (h1 : ¬ (k = 1)) (h7 : k = 2) (h8 : ¬ (b = true)) (h30 : ¬ (n < 0)) (h31 : ¬ (r < 0)) (h32 : ¬ (65535 < r)) (h33 : ¬ (m < n)) (h34 : n < a) : ActOk Try.prog 7 [.agg #[.int .i64 a, .int .i64 s, .int .i64 m, .int .i64 l], .agg #[.int .i64 k, .int .i64 n, .int .i64 r, .bool b]] (W5 a s m l) (.tuple #[.agg (stepW ⟨a, s, m, l⟩ k n r b).row.toArray, .bool true]) (stepW ⟨a, s, m, l⟩ k n r b).cells := by
  have e1 : stepW ⟨a, s, m, l⟩ k n r b = ⟨a, s, m, l⟩ := by
    simp only [stepW, takeW, ackW, probeW, nearW, h1, h7, h8, h30, h31, h32, h33, h34, if_true, if_false, ite_true, ite_false, reduceIte, Int.reduceEq, Bool.false_eq_true]
    try ((repeat' split) <;> first | rfl | (exfalso; omega) | (congr 1 <;> omega))
  have e2 : stepW ⟨a, s, m, l⟩ k n r b = ⟨a, s, m, l⟩ := by
    simp only [stepW, takeW, ackW, probeW, nearW, h1, h7, h8, h30, h31, h32, h33, h34, if_true, if_false, ite_true, ite_false, reduceIte, Int.reduceEq, Bool.false_eq_true]
    try ((repeat' split) <;> first | rfl | (exfalso; omega) | (congr 1 <;> omega))
  refine ActOk.cast (by rw [e1]; rfl) (by rw [e2]; rfl) (p18 a s m l k n r b ⟨⟨⟨⟨⟨⟨⟨⟨⟨⟨⟨⟨⟨⟨trivial, ?_⟩, ?_⟩, ?_⟩, ?_⟩, ?_⟩, ?_⟩, ?_⟩, ?_⟩, ?_⟩, ?_⟩, ?_⟩, ?_⟩, ?_⟩, ?_⟩)
  all_goals (first | trivial | assumption | (simp only [decide_eq_true_eq, decide_eq_false_iff_not, beq_eq_false_iff_ne, beq_iff_eq, Bool.not_eq_true', Bool.not_eq_false', bne_iff_ne, IntKind.wrap_i64]; omega) | (simp only [decide_eq_true_eq, decide_eq_false_iff_not]; assumption) | (simp_all; done))
set_option maxHeartbeats 4000000 in
theorem q19 (a s m l k n r : Int) (b : Bool) (i0 : 0 ≤ a) (i1 : a ≤ s) (i2 : s ≤ m) (i3 : m ≤ l + 1) (i4 : l ≤ 1000000000000) (n0 : -9223372036854775808 ≤ n) (n1 : n ≤ 9223372036854775807) (h1 : ¬ (k = 1)) (h7 : k = 2) (h8 : b = true) (h9 : (-1000) ≤ n) (h10 : n ≤ 100000) (h11 : ¬ ((n + a) < 0)) (h12 : ¬ (r < 0)) (h13 : ¬ (65535 < r)) (h14 : ¬ (m < (n + a))) (h15 : (n + a) < a) : ActOk Try.prog 7 [.agg #[.int .i64 a, .int .i64 s, .int .i64 m, .int .i64 l], .agg #[.int .i64 k, .int .i64 n, .int .i64 r, .bool b]] (W5 a s m l) (.tuple #[.agg (stepW ⟨a, s, m, l⟩ k n r b).row.toArray, .bool true]) (stepW ⟨a, s, m, l⟩ k n r b).cells := by
  have e1 : stepW ⟨a, s, m, l⟩ k n r b = ⟨a, s, m, l⟩ := by
    simp only [stepW, takeW, ackW, probeW, nearW, h1, h7, h8, h9, h10, h11, h12, h13, h14, h15, if_true, if_false, ite_true, ite_false, reduceIte, Int.reduceEq, Bool.false_eq_true]
    try ((repeat' split) <;> first | rfl | (exfalso; omega) | (congr 1 <;> omega))
  have e2 : stepW ⟨a, s, m, l⟩ k n r b = ⟨a, s, m, l⟩ := by
    simp only [stepW, takeW, ackW, probeW, nearW, h1, h7, h8, h9, h10, h11, h12, h13, h14, h15, if_true, if_false, ite_true, ite_false, reduceIte, Int.reduceEq, Bool.false_eq_true]
    try ((repeat' split) <;> first | rfl | (exfalso; omega) | (congr 1 <;> omega))
  refine ActOk.cast (by rw [e1]; rfl) (by rw [e2]; rfl) (p19 a s m l k n r b ⟨⟨⟨⟨⟨⟨⟨⟨⟨⟨⟨⟨⟨⟨⟨⟨⟨trivial, ?_⟩, ?_⟩, ?_⟩, ?_⟩, ?_⟩, ?_⟩, ?_⟩, ?_⟩, ?_⟩, ?_⟩, ?_⟩, ?_⟩, ?_⟩, ?_⟩, ?_⟩, ?_⟩, ?_⟩)
  all_goals (first | trivial | assumption | (simp only [decide_eq_true_eq, decide_eq_false_iff_not, beq_eq_false_iff_ne, beq_iff_eq, Bool.not_eq_true', Bool.not_eq_false', bne_iff_ne, IntKind.wrap_i64]; omega) | (simp only [decide_eq_true_eq, decide_eq_false_iff_not]; assumption) | (simp_all; done))

end wn
end Go.Proofs.Ythgiflgofdmamaa
