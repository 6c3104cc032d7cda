/- Read off the code by the clean reading. -/
import Derived.Test.YthgiflgofdmamaaClnW1
import Derived.Test.YthgiflgofdmamaaClnW2
import Derived.Test.YthgiflgofdmamaaClnW3
import Derived.Test.YthgiflgofdmamaaClnW4
import Derived.Test.YthgiflgofdmamaaClnW5
import Derived.Test.YthgiflgofdmamaaRows
import Derived.WalkKit
import Derived.ProofKit
import Derived.Below
import Derived.IntWalk
import Derived.Test.YthgiflgofdmamaaClnWa
set_option linter.unusedVariables false
set_option linter.unusedSimpArgs false
set_option linter.deprecated false
set_option maxRecDepth 100000
namespace Go.Proofs.Ythgiflgofdmamaa
open Go.ChangeShapes Go.WideShapes Go.ChangeAt Go.RowKit Go.Cln
namespace wn
set_option linter.unusedVariables false
set_option linter.unusedSimpArgs false
set_option maxHeartbeats 4000000 in
theorem act (a s m l k n r : Int) (b : Bool) (h0 : Inv ⟨a, s, m, l⟩ 1000000000000) (wn : -9223372036854775808 ≤ n ∧ n ≤ 9223372036854775807) : ActOk Try.prog 7 [.agg #[.int .i64 a, .int .i64 s, .int .i64 m, .int .i64 l], .agg #[.int .i64 k, .int .i64 n, .int .i64 r, .bool b]] (W5 a s m l) (.tuple #[.agg (stepW ⟨a, s, m, l⟩ k n r b).row.toArray, .bool true]) (stepW ⟨a, s, m, l⟩ k n r b).cells := by
  obtain ⟨i0, i1, i2, i3, i4⟩ := h0
  simp only at i0 i1 i2 i3 i4
  by_cases h1 : k = 1
  · by_cases h2 : n < 0
    · exact q1 a s m l k n r b i0 i1 i2 i3 i4 wn.1 wn.2 h1 h2
    · by_cases h3 : 0 < (l - s)
      · by_cases h4 : (l - s) < n
        · exact q3 a s m l k n r b i0 i1 i2 i3 i4 wn.1 wn.2 h1 h2 h3 h4
        · by_cases h5 : m < (s + n)
          · exact q5 a s m l k n r b i0 i1 i2 i3 i4 wn.1 wn.2 h1 h2 h3 h4 h5
          · exact q6 a s m l k n r b i0 i1 i2 i3 i4 wn.1 wn.2 h1 h2 h3 h4 h5
      · by_cases h6 : 0 < n
        · exact q2 a s m l k n r b i0 i1 i2 i3 i4 wn.1 wn.2 h1 h2 h3 h6
        · exact q4 a s m l k n r b i0 i1 i2 i3 i4 wn.1 wn.2 h1 h2 h3 h6
  · by_cases h7 : k = 2
    · by_cases h8 : b = true
      · by_cases h9 : (-1000) ≤ n
        · by_cases h10 : n ≤ 100000
          · by_cases h11 : (n + a) < 0
            · exact q12 a s m l k n r b i0 i1 i2 i3 i4 wn.1 wn.2 h1 h7 h8 h9 h10 h11
            · by_cases h12 : r < 0
              · exact q13 a s m l k n r b i0 i1 i2 i3 i4 wn.1 wn.2 h1 h7 h8 h9 h10 h11 h12
              · by_cases h13 : 65535 < r
                · exact q14 a s m l k n r b i0 i1 i2 i3 i4 wn.1 wn.2 h1 h7 h8 h9 h10 h11 h12 h13
                · by_cases h14 : m < (n + a)
                  · exact q17 a s m l k n r b i0 i1 i2 i3 i4 wn.1 wn.2 h1 h7 h8 h9 h10 h11 h12 h13 h14
                  · by_cases h15 : (n + a) < a
                    · exact q19 a s m l k n r b i0 i1 i2 i3 i4 wn.1 wn.2 h1 h7 h8 h9 h10 h11 h12 h13 h14 h15
                    · by_cases h16 : a < (n + a)
                      · by_cases h17 : s < (n + a)
                        · by_cases h18 : l < (n + a + r)
                          · exact q31 a s m l k n r b i0 i1 i2 i3 i4 wn.1 wn.2 h1 h7 h8 h9 h10 h11 h12 h13 h14 h15 h16 h17 h18
                          · exact q28 a s m l k n r b i0 i1 i2 i3 i4 wn.1 wn.2 h1 h7 h8 h9 h10 h11 h12 h13 h14 h15 h16 h17 h18
                        · by_cases h19 : l < (n + a + r)
                          · exact q29 a s m l k n r b i0 i1 i2 i3 i4 wn.1 wn.2 h1 h7 h8 h9 h10 h11 h12 h13 h14 h15 h16 h17 h19
                          · exact q24 a s m l k n r b i0 i1 i2 i3 i4 wn.1 wn.2 h1 h7 h8 h9 h10 h11 h12 h13 h14 h15 h16 h17 h19
                      · by_cases h20 : l < (n + a + r)
                        · exact q30 a s m l k n r b i0 i1 i2 i3 i4 wn.1 wn.2 h1 h7 h8 h9 h10 h11 h12 h13 h14 h15 h16 h20
                        · exact q25 a s m l k n r b i0 i1 i2 i3 i4 wn.1 wn.2 h1 h7 h8 h9 h10 h11 h12 h13 h14 h15 h16 h20
          · by_cases h21 : r < 0
            · exact q45 a s m l k n r b i0 i1 i2 i3 i4 wn.1 wn.2 h1 h7 h8 h9 h10 h21
            · by_cases h22 : 65535 < r
              · exact q11 a s m l k n r b i0 i1 i2 i3 i4 wn.1 wn.2 h1 h7 h8 h9 h10 h21 h22
              · by_cases h23 : m < n
                · exact q16 a s m l k n r b i0 i1 i2 i3 i4 wn.1 wn.2 h1 h7 h8 h9 h10 h21 h22 h23
                · by_cases h24 : n < a
                  · exact q40 a s m l k n r b i0 i1 i2 i3 i4 wn.1 wn.2 h1 h7 h8 h9 h10 h21 h22 h23 h24
                  · by_cases h25 : a < n
                    · by_cases h26 : s < n
                      · by_cases h27 : l < (n + r)
                        · exact q46 a s m l k n r b i0 i1 i2 i3 i4 wn.1 wn.2 h1 h7 h8 h9 h10 h21 h22 h23 h24 h25 h26 h27
                        · exact q42 a s m l k n r b i0 i1 i2 i3 i4 wn.1 wn.2 h1 h7 h8 h9 h10 h21 h22 h23 h24 h25 h26 h27
                      · by_cases h28 : l < (n + r)
                        · exact q44 a s m l k n r b i0 i1 i2 i3 i4 wn.1 wn.2 h1 h7 h8 h9 h10 h21 h22 h23 h24 h25 h26 h28
                        · exact q41 a s m l k n r b i0 i1 i2 i3 i4 wn.1 wn.2 h1 h7 h8 h9 h10 h21 h22 h23 h24 h25 h26 h28
                    · by_cases h29 : l < (n + r)
                      · exact q43 a s m l k n r b i0 i1 i2 i3 i4 wn.1 wn.2 h1 h7 h8 h9 h10 h21 h22 h23 h24 h25 h29
                      · exact q39 a s m l k n r b i0 i1 i2 i3 i4 wn.1 wn.2 h1 h7 h8 h9 h10 h21 h22 h23 h24 h25 h29
        · exact q9 a s m l k n r b i0 i1 i2 i3 i4 wn.1 wn.2 h1 h7 h8 h9
      · by_cases h30 : n < 0
        · exact q8 a s m l k n r b i0 i1 i2 i3 i4 wn.1 wn.2 h1 h7 h8 h30
        · by_cases h31 : r < 0
          · exact q7 a s m l k n r b i0 i1 i2 i3 i4 wn.1 wn.2 h1 h7 h8 h30 h31
          · by_cases h32 : 65535 < r
            · exact q10 a s m l k n r b i0 i1 i2 i3 i4 wn.1 wn.2 h1 h7 h8 h30 h31 h32
            · by_cases h33 : m < n
              · exact q15 a s m l k n r b i0 i1 i2 i3 i4 wn.1 wn.2 h1 h7 h8 h30 h31 h32 h33
              · by_cases h34 : n < a
                · exact q18 a s m l k n r b i0 i1 i2 i3 i4 wn.1 wn.2 h1 h7 h8 h30 h31 h32 h33 h34
                · by_cases h35 : a < n
                  · by_cases h36 : s < n
                    · by_cases h37 : l < (n + r)
                      · exact q23 a s m l k n r b i0 i1 i2 i3 i4 wn.1 wn.2 h1 h7 h8 h30 h31 h32 h33 h34 h35 h36 h37
                      · exact q22 a s m l k n r b i0 i1 i2 i3 i4 wn.1 wn.2 h1 h7 h8 h30 h31 h32 h33 h34 h35 h36 h37
                    · by_cases h38 : l < (n + r)
                      · exact q27 a s m l k n r b i0 i1 i2 i3 i4 wn.1 wn.2 h1 h7 h8 h30 h31 h32 h33 h34 h35 h36 h38
                      · exact q20 a s m l k n r b i0 i1 i2 i3 i4 wn.1 wn.2 h1 h7 h8 h30 h31 h32 h33 h34 h35 h36 h38
                  · by_cases h39 : l < (n + r)
                    · exact q26 a s m l k n r b i0 i1 i2 i3 i4 wn.1 wn.2 h1 h7 h8 h30 h31 h32 h33 h34 h35 h39
                    · exact q21 a s m l k n r b i0 i1 i2 i3 i4 wn.1 wn.2 h1 h7 h8 h30 h31 h32 h33 h34 h35 h39
    · by_cases h40 : k = 3
      · exact q32 a s m l k n r b i0 i1 i2 i3 i4 wn.1 wn.2 h1 h7 h40
      · by_cases h41 : k = 4
        · by_cases h42 : m < l
          · by_cases h43 : m = a
            · exact q37 a s m l k n r b i0 i1 i2 i3 i4 wn.1 wn.2 h1 h7 h40 h41 h42 h43
            · exact q34 a s m l k n r b i0 i1 i2 i3 i4 wn.1 wn.2 h1 h7 h40 h41 h42 h43
          · by_cases h44 : l = a
            · by_cases h45 : l < m
              · exact q36 a s m l k n r b i0 i1 i2 i3 i4 wn.1 wn.2 h1 h7 h40 h41 h42 h44 h45
              · exact q38 a s m l k n r b i0 i1 i2 i3 i4 wn.1 wn.2 h1 h7 h40 h41 h42 h44 h45
            · by_cases h46 : a = m
              · exact q35 a s m l k n r b i0 i1 i2 i3 i4 wn.1 wn.2 h1 h7 h40 h41 h42 h44 h46
              · exact q33 a s m l k n r b i0 i1 i2 i3 i4 wn.1 wn.2 h1 h7 h40 h41 h42 h44 h46
        · exact q0 a s m l k n r b i0 i1 i2 i3 i4 wn.1 wn.2 h1 h7 h40 h41

end wn
end Go.Proofs.Ythgiflgofdmamaa
namespace Go.Proofs.Ythgiflgofdmamaa
open Go.ChangeShapes Go.WideShapes Go.ChangeAt Go.RowKit Go.Cln
namespace wn
set_option linter.unusedVariables false
set_option linter.unusedSimpArgs false
noncomputable section
def roomI (s l : Int) : Int := if s < l then l - s else 0
def zeroB (a m l : Int) : Bool := decide (a = m) && decide (a = l)
end
theorem st_p0 (a : Int) (s : Int) (m : Int) (l : Int) (hp : (True ∧ True)) : SeeOk Try.prog 8 [] [.int .i64 a, .int .i64 s, .int .i64 m, .int .i64 l, .bool true] (.agg #[.int .i64 (a), .int .i64 (s), .int .i64 (m), .int .i64 (l)]) :=
  SeeOk.of_run pg K0_ok (n := 200) (orc := []) (by kernel_rfl) hp rfl rfl rfl
set_option maxHeartbeats 4000000 in
theorem st_q0 (a : Int) (s : Int) (m : Int) (l : Int)   : SeeOk Try.prog 8 [] [.int .i64 a, .int .i64 s, .int .i64 m, .int .i64 l, .bool true] (.agg #[.int .i64 a, .int .i64 s, .int .i64 m, .int .i64 l]) := by
  have e1 : (.agg #[.int .i64 a, .int .i64 s, .int .i64 m, .int .i64 l] : Value) = .agg #[.int .i64 (a), .int .i64 (s), .int .i64 (m), .int .i64 (l)] := by first | rfl | (simp only [roomI, zeroB, if_true, if_false, reduceIte, Int.reduceEq, Bool.false_eq_true, decide_true, decide_false, Bool.and_true, Bool.true_and, Bool.and_false, Bool.false_and, Bool.or_true, Bool.or_false, Bool.true_or, Bool.false_or, Bool.not_true, Bool.not_false]; done) | (congr 1; rw [Bool.eq_iff_iff]; simp only [roomI, zeroB, Bool.and_eq_true, Bool.or_eq_true, decide_eq_true_eq, Bool.false_eq_true, Bool.not_eq_true', decide_eq_false_iff_not, iff_false, iff_true]; omega) | (simp only [roomI, zeroB, if_true, if_false, reduceIte, Int.reduceEq, Bool.false_eq_true, decide_true, decide_false, Bool.and_true, Bool.true_and, Bool.and_false, Bool.false_and, Bool.or_true, Bool.or_false, Bool.true_or, Bool.false_or, Bool.not_true, Bool.not_false]; try ((repeat' split) <;> first | rfl | (exfalso; omega) | (congr 1; omega) | (congr 2; omega) | (simp_all; done))) | ((try simp only [roomI, zeroB]); (repeat' split) <;> first | rfl | (exfalso; omega) | (congr 1; omega) | (simp_all; done) | (simp_all; omega))
  rw [e1]
  refine st_p0 a s m l ⟨trivial, ?_⟩
  all_goals (first | trivial | assumption | (simp only [decide_eq_true_eq, decide_eq_false_iff_not, beq_eq_false_iff_ne, beq_iff_eq, Bool.not_eq_true', Bool.not_eq_false', bne_iff_ne, IntKind.wrap_i64]; omega) | (simp only [decide_eq_true_eq, decide_eq_false_iff_not]; assumption) | (simp_all; done))
set_option maxHeartbeats 4000000 in
theorem st_ok (a : Int) (s : Int) (m : Int) (l : Int)  : SeeOk Try.prog 8 [] [.int .i64 a, .int .i64 s, .int .i64 m, .int .i64 l, .bool true] (.agg #[.int .i64 a, .int .i64 s, .int .i64 m, .int .i64 l]) := by
  exact st_q0 a s m l  
theorem room_p0 (a : Int) (s : Int) (m : Int) (l : Int) (hp : (((True ∧ True) ∧ IntKind.i64.wrap (l - s) = l - s) ∧ decide (0 < (l - s)) = false)) : SeeOk Try.prog 9 [] [.int .i64 a, .int .i64 s, .int .i64 m, .int .i64 l, .bool true] (.int .i64 (0)) :=
  SeeOk.of_run pg K0_ok (n := 200) (orc := [none, some true, none, none, none, none, none, none, none, some false]) (by kernel_rfl) hp rfl rfl rfl
theorem room_p1 (a : Int) (s : Int) (m : Int) (l : Int) (hp : (((True ∧ True) ∧ IntKind.i64.wrap (l - s) = l - s) ∧ decide (0 < (l - s)) = true)) : SeeOk Try.prog 9 [] [.int .i64 a, .int .i64 s, .int .i64 m, .int .i64 l, .bool true] (.int .i64 (l - s)) :=
  SeeOk.of_run pg K0_ok (n := 200) (orc := [none, some true, none, none, none, none, none, none, none, some true]) (by kernel_rfl) hp rfl rfl rfl
set_option maxHeartbeats 4000000 in
theorem room_q1 (a : Int) (s : Int) (m : Int) (l : Int) (i0 : 0 ≤ s) (i1 : s ≤ 10000000000000) (i2 : -1 ≤ l) (i3 : l ≤ 10000000000000) (h1 : 0 < (l - s)) : SeeOk Try.prog 9 [] [.int .i64 a, .int .i64 s, .int .i64 m, .int .i64 l, .bool true] (.int .i64 (roomI s l)) := by
  have e1 : (.int .i64 (roomI s l) : Value) = .int .i64 (l - s) := by first | rfl | (simp only [roomI, zeroB, h1, if_true, if_false, reduceIte, Int.reduceEq, Bool.false_eq_true, decide_true, decide_false, Bool.and_true, Bool.true_and, Bool.and_false, Bool.false_and, Bool.or_true, Bool.or_false, Bool.true_or, Bool.false_or, Bool.not_true, Bool.not_false]; done) | (congr 1; rw [Bool.eq_iff_iff]; simp only [roomI, zeroB, Bool.and_eq_true, Bool.or_eq_true, decide_eq_true_eq, Bool.false_eq_true, Bool.not_eq_true', decide_eq_false_iff_not, iff_false, iff_true]; omega) | (simp only [roomI, zeroB, h1, if_true, if_false, reduceIte, Int.reduceEq, Bool.false_eq_true, decide_true, decide_false, Bool.and_true, Bool.true_and, Bool.and_false, Bool.false_and, Bool.or_true, Bool.or_false, Bool.true_or, Bool.false_or, Bool.not_true, Bool.not_false]; try ((repeat' split) <;> first | rfl | (exfalso; omega) | (congr 1; omega) | (congr 2; omega) | (simp_all; done))) | ((try simp only [roomI, zeroB]); (repeat' split) <;> first | rfl | (exfalso; omega) | (congr 1; omega) | (simp_all; done) | (simp_all; omega))
  rw [e1]
  refine room_p1 a s m l ⟨⟨⟨trivial, ?_⟩, ?_⟩, ?_⟩
  all_goals (first | trivial | assumption | (simp only [decide_eq_true_eq, decide_eq_false_iff_not, beq_eq_false_iff_ne, beq_iff_eq, Bool.not_eq_true', Bool.not_eq_false', bne_iff_ne, IntKind.wrap_i64]; omega) | (simp only [decide_eq_true_eq, decide_eq_false_iff_not]; assumption) | (simp_all; done))
set_option maxHeartbeats 4000000 in
theorem room_q0 (a : Int) (s : Int) (m : Int) (l : Int) (i0 : 0 ≤ s) (i1 : s ≤ 10000000000000) (i2 : -1 ≤ l) (i3 : l ≤ 10000000000000) (h1 : ¬ (0 < (l - s))) : SeeOk Try.prog 9 [] [.int .i64 a, .int .i64 s, .int .i64 m, .int .i64 l, .bool true] (.int .i64 (roomI s l)) := by
  have e1 : (.int .i64 (roomI s l) : Value) = .int .i64 (0) := by first | rfl | (simp only [roomI, zeroB, h1, if_true, if_false, reduceIte, Int.reduceEq, Bool.false_eq_true, decide_true, decide_false, Bool.and_true, Bool.true_and, Bool.and_false, Bool.false_and, Bool.or_true, Bool.or_false, Bool.true_or, Bool.false_or, Bool.not_true, Bool.not_false]; done) | (congr 1; rw [Bool.eq_iff_iff]; simp only [roomI, zeroB, Bool.and_eq_true, Bool.or_eq_true, decide_eq_true_eq, Bool.false_eq_true, Bool.not_eq_true', decide_eq_false_iff_not, iff_false, iff_true]; omega) | (simp only [roomI, zeroB, h1, if_true, if_false, reduceIte, Int.reduceEq, Bool.false_eq_true, decide_true, decide_false, Bool.and_true, Bool.true_and, Bool.and_false, Bool.false_and, Bool.or_true, Bool.or_false, Bool.true_or, Bool.false_or, Bool.not_true, Bool.not_false]; try ((repeat' split) <;> first | rfl | (exfalso; omega) | (congr 1; omega) | (congr 2; omega) | (simp_all; done))) | ((try simp only [roomI, zeroB]); (repeat' split) <;> first | rfl | (exfalso; omega) | (congr 1; omega) | (simp_all; done) | (simp_all; omega))
  rw [e1]
  refine room_p0 a s m l ⟨⟨⟨trivial, ?_⟩, ?_⟩, ?_⟩
  all_goals (first | trivial | assumption | (simp only [decide_eq_true_eq, decide_eq_false_iff_not, beq_eq_false_iff_ne, beq_iff_eq, Bool.not_eq_true', Bool.not_eq_false', bne_iff_ne, IntKind.wrap_i64]; omega) | (simp only [decide_eq_true_eq, decide_eq_false_iff_not]; assumption) | (simp_all; done))
set_option maxHeartbeats 4000000 in
theorem room_ok (a : Int) (s : Int) (m : Int) (l : Int) (i0 : 0 ≤ s) (i1 : s ≤ 10000000000000) (i2 : -1 ≤ l) (i3 : l ≤ 10000000000000) : SeeOk Try.prog 9 [] [.int .i64 a, .int .i64 s, .int .i64 m, .int .i64 l, .bool true] (.int .i64 (roomI s l)) := by
  by_cases h1 : 0 < (l - s)
  · exact room_q1 a s m l i0 i1 i2 i3 h1
  · exact room_q0 a s m l i0 i1 i2 i3 h1
theorem rroom_p0 (a : Int) (s : Int) (m : Int) (l : Int) (hp : (True ∧ decide (s < l) = false)) : CallOk0 Try.prog 10 [.agg #[.int .i64 a, .int .i64 s, .int .i64 m, .int .i64 l]] (.int .i64 (0)) :=
  ranF pg K0_ok (n := 200) (orc := [some false]) (by kernel_rfl) hp rfl rfl
theorem rroom_p1 (a : Int) (s : Int) (m : Int) (l : Int) (hp : ((True ∧ decide (s < l) = true) ∧ IntKind.i64.wrap (l - s) = l - s)) : CallOk0 Try.prog 10 [.agg #[.int .i64 a, .int .i64 s, .int .i64 m, .int .i64 l]] (.int .i64 (l - s)) :=
  ranF pg K0_ok (n := 200) (orc := [some true, some true]) (by kernel_rfl) hp rfl rfl
set_option maxHeartbeats 4000000 in
theorem rroom_q1 (a : Int) (s : Int) (m : Int) (l : Int) (i0 : 0 ≤ s) (i1 : s ≤ 10000000000000) (i2 : -1 ≤ l) (i3 : l ≤ 10000000000000) (h1 : s < l) : CallOk0 Try.prog 10 [.agg #[.int .i64 a, .int .i64 s, .int .i64 m, .int .i64 l]] (.int .i64 (roomI s l)) := by
  have e1 : (.int .i64 (roomI s l) : Value) = .int .i64 (l - s) := by first | rfl | (simp only [roomI, zeroB, h1, if_true, if_false, reduceIte, Int.reduceEq, Bool.false_eq_true, decide_true, decide_false, Bool.and_true, Bool.true_and, Bool.and_false, Bool.false_and, Bool.or_true, Bool.or_false, Bool.true_or, Bool.false_or, Bool.not_true, Bool.not_false]; done) | (congr 1; rw [Bool.eq_iff_iff]; simp only [roomI, zeroB, Bool.and_eq_true, Bool.or_eq_true, decide_eq_true_eq, Bool.false_eq_true, Bool.not_eq_true', decide_eq_false_iff_not, iff_false, iff_true]; omega) | (simp only [roomI, zeroB, h1, if_true, if_false, reduceIte, Int.reduceEq, Bool.false_eq_true, decide_true, decide_false, Bool.and_true, Bool.true_and, Bool.and_false, Bool.false_and, Bool.or_true, Bool.or_false, Bool.true_or, Bool.false_or, Bool.not_true, Bool.not_false]; try ((repeat' split) <;> first | rfl | (exfalso; omega) | (congr 1; omega) | (congr 2; omega) | (simp_all; done))) | ((try simp only [roomI, zeroB]); (repeat' split) <;> first | rfl | (exfalso; omega) | (congr 1; omega) | (simp_all; done) | (simp_all; omega))
  rw [e1]
  refine rroom_p1 a s m l ⟨⟨trivial, ?_⟩, ?_⟩
  all_goals (first | trivial | assumption | (simp only [decide_eq_true_eq, decide_eq_false_iff_not, beq_eq_false_iff_ne, beq_iff_eq, Bool.not_eq_true', Bool.not_eq_false', bne_iff_ne, IntKind.wrap_i64]; omega) | (simp only [decide_eq_true_eq, decide_eq_false_iff_not]; assumption) | (simp_all; done))
set_option maxHeartbeats 4000000 in
theorem rroom_q0 (a : Int) (s : Int) (m : Int) (l : Int) (i0 : 0 ≤ s) (i1 : s ≤ 10000000000000) (i2 : -1 ≤ l) (i3 : l ≤ 10000000000000) (h1 : ¬ (s < l)) : CallOk0 Try.prog 10 [.agg #[.int .i64 a, .int .i64 s, .int .i64 m, .int .i64 l]] (.int .i64 (roomI s l)) := by
  have e1 : (.int .i64 (roomI s l) : Value) = .int .i64 (0) := by first | rfl | (simp only [roomI, zeroB, h1, if_true, if_false, reduceIte, Int.reduceEq, Bool.false_eq_true, decide_true, decide_false, Bool.and_true, Bool.true_and, Bool.and_false, Bool.false_and, Bool.or_true, Bool.or_false, Bool.true_or, Bool.false_or, Bool.not_true, Bool.not_false]; done) | (congr 1; rw [Bool.eq_iff_iff]; simp only [roomI, zeroB, Bool.and_eq_true, Bool.or_eq_true, decide_eq_true_eq, Bool.false_eq_true, Bool.not_eq_true', decide_eq_false_iff_not, iff_false, iff_true]; omega) | (simp only [roomI, zeroB, h1, if_true, if_false, reduceIte, Int.reduceEq, Bool.false_eq_true, decide_true, decide_false, Bool.and_true, Bool.true_and, Bool.and_false, Bool.false_and, Bool.or_true, Bool.or_false, Bool.true_or, Bool.false_or, Bool.not_true, Bool.not_false]; try ((repeat' split) <;> first | rfl | (exfalso; omega) | (congr 1; omega) | (congr 2; omega) | (simp_all; done))) | ((try simp only [roomI, zeroB]); (repeat' split) <;> first | rfl | (exfalso; omega) | (congr 1; omega) | (simp_all; done) | (simp_all; omega))
  rw [e1]
  refine rroom_p0 a s m l ⟨trivial, ?_⟩
  all_goals (first | trivial | assumption | (simp only [decide_eq_true_eq, decide_eq_false_iff_not, beq_eq_false_iff_ne, beq_iff_eq, Bool.not_eq_true', Bool.not_eq_false', bne_iff_ne, IntKind.wrap_i64]; omega) | (simp only [decide_eq_true_eq, decide_eq_false_iff_not]; assumption) | (simp_all; done))
set_option maxHeartbeats 4000000 in
theorem rroom_ok (a : Int) (s : Int) (m : Int) (l : Int) (i0 : 0 ≤ s) (i1 : s ≤ 10000000000000) (i2 : -1 ≤ l) (i3 : l ≤ 10000000000000) : CallOk0 Try.prog 10 [.agg #[.int .i64 a, .int .i64 s, .int .i64 m, .int .i64 l]] (.int .i64 (roomI s l)) := by
  by_cases h1 : s < l
  · exact rroom_q1 a s m l i0 i1 i2 i3 h1
  · exact rroom_q0 a s m l i0 i1 i2 i3 h1
theorem zero_p0 (a : Int) (s : Int) (m : Int) (l : Int) (hp : ((((((((((((((((((((((((True ∧ True) ∧ decide (l < l) = false) ∧ decide (m < l) = false) ∧ decide (l = a) = true) ∧ decide (l = a) = true) ∧ decide (l = a) = true) ∧ decide (l = a) = true) ∧ decide (l = a) = true) ∧ decide (l = a) = true) ∧ decide (l = a) = true) ∧ decide (l = a) = true) ∧ decide (l = a) = true) ∧ decide (l = a) = true) ∧ decide (l = a) = true) ∧ decide (l = a) = true) ∧ decide (l = a) = true) ∧ decide (l = a) = true) ∧ decide (l = a) = true) ∧ decide (l = a) = true) ∧ decide (l = a) = true) ∧ decide (l < l) = false) ∧ decide (l < m) = false) ∧ decide (l = a) = true) ∧ decide (l = a) = true)) : SeeOk Try.prog 11 [] [.int .i64 a, .int .i64 s, .int .i64 m, .int .i64 l, .bool true] (.bool (decide (l = a))) :=
  SeeOk.of_run pg K0_ok (n := 200) (orc := [none, none, none, none, none, none, none, none, none, none, none, none, none, none, none, none, none, none, none, none, some false, none, none, none, some false, none, none, none, none, some true, some true, some true, some true, some true, some true, some true, some true, some true, some true, some true, some true, some true, some true, some true, some true, some true, none, none, none, some false, none, none, none, some false, none, none, some true, some true]) (by kernel_rfl) hp rfl rfl rfl
theorem zero_p1 (a : Int) (s : Int) (m : Int) (l : Int) (hp : ((((((((((((((((((((((((True ∧ True) ∧ decide (l < l) = false) ∧ decide (m < l) = true) ∧ decide (m = a) = true) ∧ decide (m = a) = true) ∧ decide (m = a) = true) ∧ decide (m = a) = true) ∧ decide (m = a) = true) ∧ decide (m = a) = true) ∧ decide (m = a) = true) ∧ decide (m = a) = true) ∧ decide (m = a) = true) ∧ decide (m = a) = true) ∧ decide (m = a) = true) ∧ decide (m = a) = true) ∧ decide (m = a) = true) ∧ decide (m = a) = true) ∧ decide (m = a) = true) ∧ decide (m = a) = true) ∧ decide (m = a) = true) ∧ decide (l < l) = false) ∧ decide (l < m) = false) ∧ decide (m = a) = true) ∧ decide (m = a) = true)) : SeeOk Try.prog 11 [] [.int .i64 a, .int .i64 s, .int .i64 m, .int .i64 l, .bool true] (.bool (decide (l = a))) :=
  SeeOk.of_run pg K0_ok (n := 200) (orc := [none, none, none, none, none, none, none, none, none, none, none, none, none, none, none, none, none, none, none, none, some false, none, none, none, some true, none, none, none, none, some true, some true, some true, some true, some true, some true, some true, some true, some true, some true, some true, some true, some true, some true, some true, some true, some true, none, none, none, some false, none, none, none, some false, none, none, some true, some true]) (by kernel_rfl) hp rfl rfl rfl
theorem zero_p2 (a : Int) (s : Int) (m : Int) (l : Int) (hp : ((((((((((((((((((((((((True ∧ True) ∧ decide (l < l) = false) ∧ decide (m < l) = false) ∧ decide (l = a) = true) ∧ decide (l = a) = true) ∧ decide (l = a) = true) ∧ decide (l = a) = true) ∧ decide (l = a) = true) ∧ decide (l = a) = true) ∧ decide (l = a) = true) ∧ decide (l = a) = true) ∧ decide (l = a) = true) ∧ decide (l = a) = true) ∧ decide (l = a) = true) ∧ decide (l = a) = true) ∧ decide (l = a) = true) ∧ decide (l = a) = true) ∧ decide (l = a) = true) ∧ decide (l = a) = true) ∧ decide (l = a) = true) ∧ decide (l < l) = false) ∧ decide (l < m) = true) ∧ decide (l = a) = true) ∧ decide (l = a) = true)) : SeeOk Try.prog 11 [] [.int .i64 a, .int .i64 s, .int .i64 m, .int .i64 l, .bool true] (.bool (decide (m = a))) :=
  SeeOk.of_run pg K0_ok (n := 200) (orc := [none, none, none, none, none, none, none, none, none, none, none, none, none, none, none, none, none, none, none, none, some false, none, none, none, some false, none, none, none, none, some true, some true, some true, some true, some true, some true, some true, some true, some true, some true, some true, some true, some true, some true, some true, some true, some true, none, none, none, some false, none, none, none, some true, none, none, some true, some true]) (by kernel_rfl) hp rfl rfl rfl
theorem zero_p3 (a : Int) (s : Int) (m : Int) (l : Int) (hp : ((((((((((((((((((((((True ∧ True) ∧ decide (l < l) = false) ∧ decide (m < l) = false) ∧ decide (l = a) = false) ∧ decide (l = a) = false) ∧ decide (l = a) = false) ∧ decide (l = a) = false) ∧ decide (l = a) = false) ∧ decide (l = a) = false) ∧ decide (l = a) = false) ∧ decide (l = a) = false) ∧ decide (l = a) = false) ∧ decide (l = a) = false) ∧ decide (l = a) = false) ∧ decide (l = a) = false) ∧ decide (l = a) = false) ∧ decide (l = a) = false) ∧ decide (l = a) = false) ∧ decide (l = a) = false) ∧ decide (l = a) = false) ∧ decide (l = a) = false) ∧ decide (l = a) = false)) : SeeOk Try.prog 11 [] [.int .i64 a, .int .i64 s, .int .i64 m, .int .i64 l, .bool true] (.bool (false)) :=
  SeeOk.of_run pg K0_ok (n := 200) (orc := [none, none, none, none, none, none, none, none, none, none, none, none, none, none, none, none, none, none, none, none, some false, none, none, none, some false, none, none, none, none, some false, some false, some false, some false, some false, some false, some false, some false, some false, some false, some false, some false, some false, some false, some false, some false, some false, some false, some false]) (by kernel_rfl) hp rfl rfl rfl
theorem zero_p4 (a : Int) (s : Int) (m : Int) (l : Int) (hp : ((((((((((((((((((((((True ∧ True) ∧ decide (l < l) = false) ∧ decide (m < l) = true) ∧ decide (m = a) = false) ∧ decide (m = a) = false) ∧ decide (m = a) = false) ∧ decide (m = a) = false) ∧ decide (m = a) = false) ∧ decide (m = a) = false) ∧ decide (m = a) = false) ∧ decide (m = a) = false) ∧ decide (m = a) = false) ∧ decide (m = a) = false) ∧ decide (m = a) = false) ∧ decide (m = a) = false) ∧ decide (m = a) = false) ∧ decide (m = a) = false) ∧ decide (m = a) = false) ∧ decide (m = a) = false) ∧ decide (m = a) = false) ∧ decide (m = a) = false) ∧ decide (m = a) = false)) : SeeOk Try.prog 11 [] [.int .i64 a, .int .i64 s, .int .i64 m, .int .i64 l, .bool true] (.bool (false)) :=
  SeeOk.of_run pg K0_ok (n := 200) (orc := [none, none, none, none, none, none, none, none, none, none, none, none, none, none, none, none, none, none, none, none, some false, none, none, none, some true, none, none, none, none, some false, some false, some false, some false, some false, some false, some false, some false, some false, some false, some false, some false, some false, some false, some false, some false, some false, some false, some false]) (by kernel_rfl) hp rfl rfl rfl
set_option maxHeartbeats 4000000 in
theorem zero_q1 (a : Int) (s : Int) (m : Int) (l : Int)  (h1 : m < l) (h2 : m = a) : SeeOk Try.prog 11 [] [.int .i64 a, .int .i64 s, .int .i64 m, .int .i64 l, .bool true] (.bool (zeroB a m l)) := by
  have e1 : (.bool (zeroB a m l) : Value) = .bool (decide (l = a)) := by first | rfl | (simp only [roomI, zeroB, h1, h2, if_true, if_false, reduceIte, Int.reduceEq, Bool.false_eq_true, decide_true, decide_false, Bool.and_true, Bool.true_and, Bool.and_false, Bool.false_and, Bool.or_true, Bool.or_false, Bool.true_or, Bool.false_or, Bool.not_true, Bool.not_false]; done) | (congr 1; rw [Bool.eq_iff_iff]; simp only [roomI, zeroB, Bool.and_eq_true, Bool.or_eq_true, decide_eq_true_eq, Bool.false_eq_true, Bool.not_eq_true', decide_eq_false_iff_not, iff_false, iff_true]; omega) | (simp only [roomI, zeroB, h1, h2, if_true, if_false, reduceIte, Int.reduceEq, Bool.false_eq_true, decide_true, decide_false, Bool.and_true, Bool.true_and, Bool.and_false, Bool.false_and, Bool.or_true, Bool.or_false, Bool.true_or, Bool.false_or, Bool.not_true, Bool.not_false]; try ((repeat' split) <;> first | rfl | (exfalso; omega) | (congr 1; omega) | (congr 2; omega) | (simp_all; done))) | ((try simp only [roomI, zeroB]); (repeat' split) <;> first | rfl | (exfalso; omega) | (congr 1; omega) | (simp_all; done) | (simp_all; omega))
  rw [e1]
  refine zero_p1 a s m l ⟨⟨⟨⟨⟨⟨⟨⟨⟨⟨⟨⟨⟨⟨⟨⟨⟨⟨⟨⟨⟨⟨⟨⟨trivial, ?_⟩, ?_⟩, ?_⟩, ?_⟩, ?_⟩, ?_⟩, ?_⟩, ?_⟩, ?_⟩, ?_⟩, ?_⟩, ?_⟩, ?_⟩, ?_⟩, ?_⟩, ?_⟩, ?_⟩, ?_⟩, ?_⟩, ?_⟩, ?_⟩, ?_⟩, ?_⟩, ?_⟩
  all_goals (first | trivial | assumption | (simp only [decide_eq_true_eq, decide_eq_false_iff_not, beq_eq_false_iff_ne, beq_iff_eq, Bool.not_eq_true', Bool.not_eq_false', bne_iff_ne, IntKind.wrap_i64]; omega) | (simp only [decide_eq_true_eq, decide_eq_false_iff_not]; assumption) | (simp_all; done))
set_option maxHeartbeats 4000000 in
theorem zero_q4 (a : Int) (s : Int) (m : Int) (l : Int)  (h1 : m < l) (h2 : ¬ (m = a)) : SeeOk Try.prog 11 [] [.int .i64 a, .int .i64 s, .int .i64 m, .int .i64 l, .bool true] (.bool (zeroB a m l)) := by
  have e1 : (.bool (zeroB a m l) : Value) = .bool (false) := by first | rfl | (simp only [roomI, zeroB, h1, h2, if_true, if_false, reduceIte, Int.reduceEq, Bool.false_eq_true, decide_true, decide_false, Bool.and_true, Bool.true_and, Bool.and_false, Bool.false_and, Bool.or_true, Bool.or_false, Bool.true_or, Bool.false_or, Bool.not_true, Bool.not_false]; done) | (congr 1; rw [Bool.eq_iff_iff]; simp only [roomI, zeroB, Bool.and_eq_true, Bool.or_eq_true, decide_eq_true_eq, Bool.false_eq_true, Bool.not_eq_true', decide_eq_false_iff_not, iff_false, iff_true]; omega) | (simp only [roomI, zeroB, h1, h2, if_true, if_false, reduceIte, Int.reduceEq, Bool.false_eq_true, decide_true, decide_false, Bool.and_true, Bool.true_and, Bool.and_false, Bool.false_and, Bool.or_true, Bool.or_false, Bool.true_or, Bool.false_or, Bool.not_true, Bool.not_false]; try ((repeat' split) <;> first | rfl | (exfalso; omega) | (congr 1; omega) | (congr 2; omega) | (simp_all; done))) | ((try simp only [roomI, zeroB]); (repeat' split) <;> first | rfl | (exfalso; omega) | (congr 1; omega) | (simp_all; done) | (simp_all; omega))
  rw [e1]
  refine zero_p4 a s m l ⟨⟨⟨⟨⟨⟨⟨⟨⟨⟨⟨⟨⟨⟨⟨⟨⟨⟨⟨⟨⟨⟨trivial, ?_⟩, ?_⟩, ?_⟩, ?_⟩, ?_⟩, ?_⟩, ?_⟩, ?_⟩, ?_⟩, ?_⟩, ?_⟩, ?_⟩, ?_⟩, ?_⟩, ?_⟩, ?_⟩, ?_⟩, ?_⟩, ?_⟩, ?_⟩, ?_⟩, ?_⟩
  all_goals (first | trivial | assumption | (simp only [decide_eq_true_eq, decide_eq_false_iff_not, beq_eq_false_iff_ne, beq_iff_eq, Bool.not_eq_true', Bool.not_eq_false', bne_iff_ne, IntKind.wrap_i64]; omega) | (simp only [decide_eq_true_eq, decide_eq_false_iff_not]; assumption) | (simp_all; done))
set_option maxHeartbeats 4000000 in
theorem zero_q2 (a : Int) (s : Int) (m : Int) (l : Int)  (h1 : ¬ (m < l)) (h3 : l = a) (h4 : l < m) : SeeOk Try.prog 11 [] [.int .i64 a, .int .i64 s, .int .i64 m, .int .i64 l, .bool true] (.bool (zeroB a m l)) := by
  have e1 : (.bool (zeroB a m l) : Value) = .bool (decide (m = a)) := by first | rfl | (simp only [roomI, zeroB, h1, h3, h4, if_true, if_false, reduceIte, Int.reduceEq, Bool.false_eq_true, decide_true, decide_false, Bool.and_true, Bool.true_and, Bool.and_false, Bool.false_and, Bool.or_true, Bool.or_false, Bool.true_or, Bool.false_or, Bool.not_true, Bool.not_false]; done) | (congr 1; rw [Bool.eq_iff_iff]; simp only [roomI, zeroB, Bool.and_eq_true, Bool.or_eq_true, decide_eq_true_eq, Bool.false_eq_true, Bool.not_eq_true', decide_eq_false_iff_not, iff_false, iff_true]; omega) | (simp only [roomI, zeroB, h1, h3, h4, if_true, if_false, reduceIte, Int.reduceEq, Bool.false_eq_true, decide_true, decide_false, Bool.and_true, Bool.true_and, Bool.and_false, Bool.false_and, Bool.or_true, Bool.or_false, Bool.true_or, Bool.false_or, Bool.not_true, Bool.not_false]; try ((repeat' split) <;> first | rfl | (exfalso; omega) | (congr 1; omega) | (congr 2; omega) | (simp_all; done))) | ((try simp only [roomI, zeroB]); (repeat' split) <;> first | rfl | (exfalso; omega) | (congr 1; omega) | (simp_all; done) | (simp_all; omega))
  rw [e1]
  refine zero_p2 a s m l ⟨⟨⟨⟨⟨⟨⟨⟨⟨⟨⟨⟨⟨⟨⟨⟨⟨⟨⟨⟨⟨⟨⟨⟨trivial, ?_⟩, ?_⟩, ?_⟩, ?_⟩, ?_⟩, ?_⟩, ?_⟩, ?_⟩, ?_⟩, ?_⟩, ?_⟩, ?_⟩, ?_⟩, ?_⟩, ?_⟩, ?_⟩, ?_⟩, ?_⟩, ?_⟩, ?_⟩, ?_⟩, ?_⟩, ?_⟩, ?_⟩
  all_goals (first | trivial | assumption | (simp only [decide_eq_true_eq, decide_eq_false_iff_not, beq_eq_false_iff_ne, beq_iff_eq, Bool.not_eq_true', Bool.not_eq_false', bne_iff_ne, IntKind.wrap_i64]; omega) | (simp only [decide_eq_true_eq, decide_eq_false_iff_not]; assumption) | (simp_all; done))
set_option maxHeartbeats 4000000 in
theorem zero_q0 (a : Int) (s : Int) (m : Int) (l : Int)  (h1 : ¬ (m < l)) (h3 : l = a) (h4 : ¬ (l < m)) : SeeOk Try.prog 11 [] [.int .i64 a, .int .i64 s, .int .i64 m, .int .i64 l, .bool true] (.bool (zeroB a m l)) := by
  have e1 : (.bool (zeroB a m l) : Value) = .bool (decide (l = a)) := by first | rfl | (simp only [roomI, zeroB, h1, h3, h4, if_true, if_false, reduceIte, Int.reduceEq, Bool.false_eq_true, decide_true, decide_false, Bool.and_true, Bool.true_and, Bool.and_false, Bool.false_and, Bool.or_true, Bool.or_false, Bool.true_or, Bool.false_or, Bool.not_true, Bool.not_false]; done) | (congr 1; rw [Bool.eq_iff_iff]; simp only [roomI, zeroB, Bool.and_eq_true, Bool.or_eq_true, decide_eq_true_eq, Bool.false_eq_true, Bool.not_eq_true', decide_eq_false_iff_not, iff_false, iff_true]; omega) | (simp only [roomI, zeroB, h1, h3, h4, if_true, if_false, reduceIte, Int.reduceEq, Bool.false_eq_true, decide_true, decide_false, Bool.and_true, Bool.true_and, Bool.and_false, Bool.false_and, Bool.or_true, Bool.or_false, Bool.true_or, Bool.false_or, Bool.not_true, Bool.not_false]; try ((repeat' split) <;> first | rfl | (exfalso; omega) | (congr 1; omega) | (congr 2; omega) | (simp_all; done))) | ((try simp only [roomI, zeroB]); (repeat' split) <;> first | rfl | (exfalso; omega) | (congr 1; omega) | (simp_all; done) | (simp_all; omega))
  rw [e1]
  refine zero_p0 a s m l ⟨⟨⟨⟨⟨⟨⟨⟨⟨⟨⟨⟨⟨⟨⟨⟨⟨⟨⟨⟨⟨⟨⟨⟨trivial, ?_⟩, ?_⟩, ?_⟩, ?_⟩, ?_⟩, ?_⟩, ?_⟩, ?_⟩, ?_⟩, ?_⟩, ?_⟩, ?_⟩, ?_⟩, ?_⟩, ?_⟩, ?_⟩, ?_⟩, ?_⟩, ?_⟩, ?_⟩, ?_⟩, ?_⟩, ?_⟩, ?_⟩
  all_goals (first | trivial | assumption | (simp only [decide_eq_true_eq, decide_eq_false_iff_not, beq_eq_false_iff_ne, beq_iff_eq, Bool.not_eq_true', Bool.not_eq_false', bne_iff_ne, IntKind.wrap_i64]; omega) | (simp only [decide_eq_true_eq, decide_eq_false_iff_not]; assumption) | (simp_all; done))
set_option maxHeartbeats 4000000 in
theorem zero_q3 (a : Int) (s : Int) (m : Int) (l : Int)  (h1 : ¬ (m < l)) (h3 : ¬ (l = a)) : SeeOk Try.prog 11 [] [.int .i64 a, .int .i64 s, .int .i64 m, .int .i64 l, .bool true] (.bool (zeroB a m l)) := by
  have e1 : (.bool (zeroB a m l) : Value) = .bool (false) := by first | rfl | (simp only [roomI, zeroB, h1, h3, if_true, if_false, reduceIte, Int.reduceEq, Bool.false_eq_true, decide_true, decide_false, Bool.and_true, Bool.true_and, Bool.and_false, Bool.false_and, Bool.or_true, Bool.or_false, Bool.true_or, Bool.false_or, Bool.not_true, Bool.not_false]; done) | (congr 1; rw [Bool.eq_iff_iff]; simp only [roomI, zeroB, Bool.and_eq_true, Bool.or_eq_true, decide_eq_true_eq, Bool.false_eq_true, Bool.not_eq_true', decide_eq_false_iff_not, iff_false, iff_true]; omega) | (simp only [roomI, zeroB, h1, h3, if_true, if_false, reduceIte, Int.reduceEq, Bool.false_eq_true, decide_true, decide_false, Bool.and_true, Bool.true_and, Bool.and_false, Bool.false_and, Bool.or_true, Bool.or_false, Bool.true_or, Bool.false_or, Bool.not_true, Bool.not_false]; try ((repeat' split) <;> first | rfl | (exfalso; omega) | (congr 1; omega) | (congr 2; omega) | (simp_all; done))) | ((try simp only [roomI, zeroB]); (repeat' split) <;> first | rfl | (exfalso; omega) | (congr 1; omega) | (simp_all; done) | (simp_all; omega))
  rw [e1]
  refine zero_p3 a s m l ⟨⟨⟨⟨⟨⟨⟨⟨⟨⟨⟨⟨⟨⟨⟨⟨⟨⟨⟨⟨⟨⟨trivial, ?_⟩, ?_⟩, ?_⟩, ?_⟩, ?_⟩, ?_⟩, ?_⟩, ?_⟩, ?_⟩, ?_⟩, ?_⟩, ?_⟩, ?_⟩, ?_⟩, ?_⟩, ?_⟩, ?_⟩, ?_⟩, ?_⟩, ?_⟩, ?_⟩, ?_⟩
  all_goals (first | trivial | assumption | (simp only [decide_eq_true_eq, decide_eq_false_iff_not, beq_eq_false_iff_ne, beq_iff_eq, Bool.not_eq_true', Bool.not_eq_false', bne_iff_ne, IntKind.wrap_i64]; omega) | (simp only [decide_eq_true_eq, decide_eq_false_iff_not]; assumption) | (simp_all; done))
set_option maxHeartbeats 4000000 in
theorem zero_ok (a : Int) (s : Int) (m : Int) (l : Int)  : SeeOk Try.prog 11 [] [.int .i64 a, .int .i64 s, .int .i64 m, .int .i64 l, .bool true] (.bool (zeroB a m l)) := by
  by_cases h1 : m < l
  · by_cases h2 : m = a
    · exact zero_q1 a s m l  h1 h2
    · exact zero_q4 a s m l  h1 h2
  · by_cases h3 : l = a
    · by_cases h4 : l < m
      · exact zero_q2 a s m l  h1 h3 h4
      · exact zero_q0 a s m l  h1 h3 h4
    · exact zero_q3 a s m l  h1 h3
theorem rzero_p0 (a : Int) (s : Int) (m : Int) (l : Int) (hp : (True ∧ decide (a = m) = true)) : CallOk0 Try.prog 12 [.agg #[.int .i64 a, .int .i64 s, .int .i64 m, .int .i64 l]] (.bool (decide (a = l))) :=
  ranF pg K0_ok (n := 200) (orc := [some true]) (by kernel_rfl) hp rfl rfl
theorem rzero_p1 (a : Int) (s : Int) (m : Int) (l : Int) (hp : (True ∧ decide (a = m) = false)) : CallOk0 Try.prog 12 [.agg #[.int .i64 a, .int .i64 s, .int .i64 m, .int .i64 l]] (.bool (false)) :=
  ranF pg K0_ok (n := 200) (orc := [some false]) (by kernel_rfl) hp rfl rfl
set_option maxHeartbeats 4000000 in
theorem rzero_q0 (a : Int) (s : Int) (m : Int) (l : Int)  (h1 : a = m) : CallOk0 Try.prog 12 [.agg #[.int .i64 a, .int .i64 s, .int .i64 m, .int .i64 l]] (.bool (zeroB a m l)) := by
  have e1 : (.bool (zeroB a m l) : Value) = .bool (decide (a = l)) := by first | rfl | (simp only [roomI, zeroB, h1, if_true, if_false, reduceIte, Int.reduceEq, Bool.false_eq_true, decide_true, decide_false, Bool.and_true, Bool.true_and, Bool.and_false, Bool.false_and, Bool.or_true, Bool.or_false, Bool.true_or, Bool.false_or, Bool.not_true, Bool.not_false]; done) | (congr 1; rw [Bool.eq_iff_iff]; simp only [roomI, zeroB, Bool.and_eq_true, Bool.or_eq_true, decide_eq_true_eq, Bool.false_eq_true, Bool.not_eq_true', decide_eq_false_iff_not, iff_false, iff_true]; omega) | (simp only [roomI, zeroB, h1, if_true, if_false, reduceIte, Int.reduceEq, Bool.false_eq_true, decide_true, decide_false, Bool.and_true, Bool.true_and, Bool.and_false, Bool.false_and, Bool.or_true, Bool.or_false, Bool.true_or, Bool.false_or, Bool.not_true, Bool.not_false]; try ((repeat' split) <;> first | rfl | (exfalso; omega) | (congr 1; omega) | (congr 2; omega) | (simp_all; done))) | ((try simp only [roomI, zeroB]); (repeat' split) <;> first | rfl | (exfalso; omega) | (congr 1; omega) | (simp_all; done) | (simp_all; omega))
  rw [e1]
  refine rzero_p0 a s m l ⟨trivial, ?_⟩
  all_goals (first | trivial | assumption | (simp only [decide_eq_true_eq, decide_eq_false_iff_not, beq_eq_false_iff_ne, beq_iff_eq, Bool.not_eq_true', Bool.not_eq_false', bne_iff_ne, IntKind.wrap_i64]; omega) | (simp only [decide_eq_true_eq, decide_eq_false_iff_not]; assumption) | (simp_all; done))
set_option maxHeartbeats 4000000 in
theorem rzero_q1 (a : Int) (s : Int) (m : Int) (l : Int)  (h1 : ¬ (a = m)) : CallOk0 Try.prog 12 [.agg #[.int .i64 a, .int .i64 s, .int .i64 m, .int .i64 l]] (.bool (zeroB a m l)) := by
  have e1 : (.bool (zeroB a m l) : Value) = .bool (false) := by first | rfl | (simp only [roomI, zeroB, h1, if_true, if_false, reduceIte, Int.reduceEq, Bool.false_eq_true, decide_true, decide_false, Bool.and_true, Bool.true_and, Bool.and_false, Bool.false_and, Bool.or_true, Bool.or_false, Bool.true_or, Bool.false_or, Bool.not_true, Bool.not_false]; done) | (congr 1; rw [Bool.eq_iff_iff]; simp only [roomI, zeroB, Bool.and_eq_true, Bool.or_eq_true, decide_eq_true_eq, Bool.false_eq_true, Bool.not_eq_true', decide_eq_false_iff_not, iff_false, iff_true]; omega) | (simp only [roomI, zeroB, h1, if_true, if_false, reduceIte, Int.reduceEq, Bool.false_eq_true, decide_true, decide_false, Bool.and_true, Bool.true_and, Bool.and_false, Bool.false_and, Bool.or_true, Bool.or_false, Bool.true_or, Bool.false_or, Bool.not_true, Bool.not_false]; try ((repeat' split) <;> first | rfl | (exfalso; omega) | (congr 1; omega) | (congr 2; omega) | (simp_all; done))) | ((try simp only [roomI, zeroB]); (repeat' split) <;> first | rfl | (exfalso; omega) | (congr 1; omega) | (simp_all; done) | (simp_all; omega))
  rw [e1]
  refine rzero_p1 a s m l ⟨trivial, ?_⟩
  all_goals (first | trivial | assumption | (simp only [decide_eq_true_eq, decide_eq_false_iff_not, beq_eq_false_iff_ne, beq_iff_eq, Bool.not_eq_true', Bool.not_eq_false', bne_iff_ne, IntKind.wrap_i64]; omega) | (simp only [decide_eq_true_eq, decide_eq_false_iff_not]; assumption) | (simp_all; done))
set_option maxHeartbeats 4000000 in
theorem rzero_ok (a : Int) (s : Int) (m : Int) (l : Int)  : CallOk0 Try.prog 12 [.agg #[.int .i64 a, .int .i64 s, .int .i64 m, .int .i64 l]] (.bool (zeroB a m l)) := by
  by_cases h1 : a = m
  · exact rzero_q0 a s m l  h1
  · exact rzero_q1 a s m l  h1

end wn
end Go.Proofs.Ythgiflgofdmamaa
namespace Go.Proofs.Ythgiflgofdmamaa
open Go.ChangeShapes Go.WideShapes Go.ChangeAt Go.RowKit Go.Cln
namespace wn
set_option linter.unusedVariables false
set_option linter.unusedSimpArgs false
noncomputable section
structure Scr where
  k : Nat → Int
  n : Nat → Int
  r : Nat → Int
  b : Nat → Bool
def Scr.row (S : Scr) (i : Nat) : List Value := [.int .i64 (S.k i), .int .i64 (S.n i), .int .i64 (S.r i), .bool (S.b i)]
abbrev StepT := W4 → Int → Int → Int → Bool → W4
abbrev RoomT := Int → Int → Int
abbrev ZeroT := Int → Int → Int → Bool
def FSq (rm : RoomT) (zb : ZeroT) (f : FuncId) (rest l : List Value) : Option (Nat × Prop × Value) := match rest, l with
  | [], .int .i64 a :: .int .i64 s :: .int .i64 m :: .int .i64 l :: .bool true :: _ =>
    if f == 22 then some (5, True, .bool false)
    else if f == 8 then some (5, True, .agg #[.int .i64 a, .int .i64 s, .int .i64 m, .int .i64 l])
    else if f == 9 then some (5, 0 ≤ s ∧ s ≤ 10000000000000 ∧ -1 ≤ l ∧ l ≤ 10000000000000, .int .i64 (rm s l))
    else if f == 11 then some (5, True, .bool (zb a m l)) else none
  | _, _ => none
def FT (rm : RoomT) (zb : ZeroT) (f : FuncId) (args : List Value) : Option (Prop × Value) := match args with
  | [.agg x] => if f == 10 || f == 12 then (match x.toList with
    | [.int .i64 a, .int .i64 s, .int .i64 m, .int .i64 l] =>
      if f == 10 then some (0 ≤ s ∧ s ≤ 10000000000000 ∧ -1 ≤ l ∧ l ≤ 10000000000000, .int .i64 (rm s l)) else some (True, .bool (zb a m l))
    | _ => none) else none
  | _ => none
def FA (F : StepT) (f : FuncId) (rest l : List Value) : Option (Prop × Value × List Value) := if f == 7 then (match rest with
  | [.agg x, .agg y] => match l, x.toList, y.toList with
    | [.int .i64 a, .int .i64 s, .int .i64 m, .int .i64 l, .bool true], [.int .i64 a', .int .i64 s', .int .i64 m', .int .i64 l'], [.int .i64 k, .int .i64 n, .int .i64 r, .bool b] =>
      some ((a' = a ∧ s' = s ∧ m' = m ∧ l' = l) ∧ Inv ⟨a, s, m, l⟩ 1000000000000 ∧ (-9223372036854775808 ≤ n ∧ n ≤ 9223372036854775807),
        .tuple #[.agg (F ⟨a, s, m, l⟩ k n r b).row.toArray, .bool true], (F ⟨a, s, m, l⟩ k n r b).cells)
    | _, _, _ => none
  | _ => none) else none
def sl (n c : Nat) : Value := .slice (some ⟨0, 0, none⟩) n c
def hp (S : Scr) (n : Nat) (w : W4) : Nat → Option Ob := fun i => match i with
  | 0 => some (.cells (.rows n 4 S.row) 0)
  | 1 => some (.cells (.lit w.cells) 46)
  | 2 => some (.cells (.lit w.row) 27)
  | _ => none
def mkL (S : Scr) (n : Nat) (w : W4) (t : List Value) : St := ⟨t, [], Tr.rebuild (hp S n w) 3, 3, 1, [], fun _ => false, True, []⟩
def tE (n c i : Nat) : List Value := [sl n c] ++ U 1 ++ [.bool false, P0 1 0, P0 2 0, .int .i64 (i : Int)] ++ U 3 ++ [sl n c, .int .i64 (n : Int), .bool false] ++ U 1 ++ [P0 1 0, .agg #[.int .i64 0, .int .i64 0, .int .i64 0, .int .i64 0]] ++ U 84
def tR (n c i : Nat) : List Value := [sl n c] ++ U 1 ++ [.bool false, P0 1 0, P0 2 0, .int .i64 (i : Int)] ++ J 3 ++ [sl n c, .int .i64 (n : Int), .bool false] ++ U 1 ++ [P0 1 0, .agg #[.int .i64 0, .int .i64 0, .int .i64 0, .int .i64 0]] ++ J 6 ++ [.tuple #[.agg #[junk, junk, junk, junk], junk]] ++ J 1 ++ [.agg #[junk, junk, junk, junk]] ++ J 3 ++ [.agg #[junk, junk, junk, junk], .tuple #[.agg #[junk, junk, junk, junk], junk], .agg #[junk, junk, junk, junk]] ++ J 2 ++ [.agg #[junk, junk, junk, junk]] ++ J 3 ++ [.agg #[junk, junk, junk, junk], .agg #[junk, junk, junk, junk]] ++ J 5 ++ [.agg #[junk, junk, junk, junk]] ++ J 6 ++ [.agg #[junk, junk, junk, junk]] ++ J 46 ++ [.agg #[junk, junk, junk, junk]] ++ U 1

theorem FS_ok : ∀ f rest l k p v, FSq roomI zeroB f rest l = some (k, p, v) → (l.take k).all flat0 = true ∧ rest.all flat = true ∧ flat v = true ∧ (p → SeeOk Try.prog f rest (l.take k) v) := by
  intro f rest l k p v h
  unfold FSq at h
  split at h
  · rename_i a s m l t
    split at h
    · rename_i hf; have hf := eq_of_beq hf; subst hf; cases h
      exact ⟨rfl, rfl, rfl, fun _ => none_told _ _ _ _⟩
    · split at h
      · rename_i hf; have hf := eq_of_beq hf; subst hf; cases h
        exact ⟨rfl, rfl, rfl, fun _ => st_ok a s m l⟩
      · split at h
        · rename_i hf; have hf := eq_of_beq hf; subst hf; cases h
          exact ⟨rfl, rfl, rfl, fun hp => room_ok a s m l hp.1 hp.2.1 hp.2.2.1 hp.2.2.2⟩
        · split at h
          · rename_i hf; have hf := eq_of_beq hf; subst hf; cases h
            exact ⟨rfl, rfl, rfl, fun _ => zero_ok a s m l⟩
          · cases h
  · cases h
theorem arr {x : Array Value} {l : List Value} (h : x.toList = l) : x = l.toArray := by subst h; rfl
theorem FT_ok : ∀ f args p v, FT roomI zeroB f args = some (p, v) → args.all flat = true ∧ flat v = true ∧ (p → CallOk0 Try.prog f args v) := by
  intro f args p v h
  unfold FT at h
  split at h
  · split at h
    · rename_i x hff
      split at h
      · rename_i a s m l hx
        have := arr hx; subst this
        split at h
        · rename_i hf; have hf := eq_of_beq hf; subst hf; cases h
          exact ⟨rfl, rfl, fun hp => rroom_ok a s m l hp.1 hp.2.1 hp.2.2.1 hp.2.2.2⟩
        · rename_i hf
          have hf : f = 12 := by simp_all
          subst hf; cases h
          exact ⟨rfl, rfl, fun _ => rzero_ok a s m l⟩
      · cases h
    · cases h
  · cases h
theorem FA_ok : ∀ f rest l p v l', FA stepW f rest l = some (p, v, l') → l.all flat0 = true ∧ l'.all flat0 = true ∧ rest.all flat = true ∧ flat v = true ∧ l'.length ≤ l.length ∧ (p → ActOk Try.prog f rest l v l') := by
  intro f rest l p v l' h
  unfold FA at h
  split at h
  · rename_i hf; have hf := eq_of_beq hf; subst hf
    split at h
    · rename_i x y
      split at h
      · rename_i a s m l a' s' m' l2 k n r b hx hy
        have e1 := arr hx; subst e1
        have e2 := arr hy; subst e2
        cases h
        refine ⟨rfl, rfl, rfl, rfl, Nat.le_refl _, fun hp => ?_⟩
        obtain ⟨⟨q1, q2, q3, q4⟩, hi, hn⟩ := hp
        subst q1; subst q2; subst q3; subst q4
        exact act _ _ _ _ k n r b hi hn
      · cases h
    · cases h
  · cases h
theorem knownRuns : ((mk Try.prog Given.nothing 200).call 5 [] (St.start 0 .leaf [])).map (fun r => (r.1, r.2.obl)) = some (.bool true, True) := by kernel_rfl
theorem known (W : World) : Calls Try.prog 5 #[] W fun e w' => e = .returned (.bool true) ∧ Below W.heap.size W w' := ran pg (GivenOk.nothing _) knownRuns trivial rfl rfl W
def KL (F : StepT) (rm : RoomT) (zb : ZeroT) : Given := { Given.tells (Given.acts (Given.sees (Given.one 5 (.bool true)) (FSq rm zb)) (FA F)) (FT rm zb) with fits := true }
theorem KL_ok : GivenOk Try.prog (KL stepW roomI zeroB) := (GivenOk.tells (GivenOk.acts (GivenOk.sees (GivenOk.one (P := Try.prog) (f := 5) (v := .bool true) rfl known) FS_ok) FA_ok) FT_ok).fit
end

end wn
end Go.Proofs.Ythgiflgofdmamaa
