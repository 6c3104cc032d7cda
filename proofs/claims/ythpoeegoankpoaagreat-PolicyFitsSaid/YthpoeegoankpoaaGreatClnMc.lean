/- Read off the code by the clean reading. -/
import Derived.Test.YthpoeegoankpoaaGreatClnMb
set_option linter.unusedVariables false
set_option linter.unusedSimpArgs false
set_option linter.deprecated false
set_option maxRecDepth 100000
namespace Go.Proofs.YthpoeegoankpoaaGreat
open Go.ChangeShapes Go.WideShapes Go.ChangeAt Go.RowKit Go.Cln
namespace ob
set_option linter.unusedVariables false
noncomputable section
noncomputable def errI (b : Bool) : Int := match b with
  | true => 0
  | false => 2
theorem k30_0 (x : MX) (a : AV) : ((mk Tryz.prog (KQ1 x) 200).call 30 [a.v] (smSt 1 [some (.fam x.F)] [some true, none, none, none, none, none, none, none, none, none, none, none, none, none, none, none, none, none, none, none, none, none, none, none, none, none, none])).map (fun r => (r.1, r.2.obl)) = some (Value.int IntKind.i64 (Int.ofNat 2), (True ∧ (decide (a.o > 2)) = true)) := by kernel_rfl
theorem k30_1 (x : MX) (a : AV) : ((mk Tryz.prog (KQ1 x) 200).call 30 [a.v] (smSt 1 [some (.fam x.F)] [some false, none, none, none, none, some true, none, none, none, none, none, none, none, none, none, none, none, none, none, none, none, none, none, none, none, none, none])).map (fun r => (r.1, r.2.obl)) = some (Value.int IntKind.i64 (Int.ofNat 2), (((True ∧ (decide (a.o > 2)) = false) ∧ (x.F = x.F ∧ (legOk x a.P a.n))) ∧ (!pathE x a.P a.n) = true)) := by kernel_rfl
theorem k30_2 (x : MX) (a : AV) : ((mk Tryz.prog (KQ1 x) 200).call 30 [a.v] (smSt 1 [some (.fam x.F)] [some false, none, none, none, none, some false, none, none, none, some true, none, none, none, none, none, none, none, none, none, none, none, none, none, none, none, none, none])).map (fun r => (r.1, r.2.obl)) = some (Value.int IntKind.i64 (Int.ofNat 2), ((((True ∧ (decide (a.o > 2)) = false) ∧ (x.F = x.F ∧ (legOk x a.P a.n))) ∧ (!pathE x a.P a.n) = false) ∧ (a.nx == 0) = true)) := by kernel_rfl
theorem k30_3 (x : MX) (a : AV) : ((mk Tryz.prog (KQ1 x) 200).call 30 [a.v] (smSt 1 [some (.fam x.F)] [some false, none, none, none, none, some false, none, none, none, some false, none, none, none, some true, none, none, none, none, none, some true, none, none, none, none, none, none, none, none, none, none, none])).map (fun r => (r.1, r.2.obl)) = some (Value.int IntKind.i64 (Int.ofNat 2), ((((((True ∧ (decide (a.o > 2)) = false) ∧ (x.F = x.F ∧ (legOk x a.P a.n))) ∧ (!pathE x a.P a.n) = false) ∧ (a.nx == 0) = false) ∧ (!a.hm) = true) ∧ (a.m != 0) = true)) := by kernel_rfl
theorem k30_4 (x : MX) (a : AV) : ((mk Tryz.prog (KQ1 x) 200).call 30 [a.v] (smSt 1 [some (.fam x.F)] [some false, none, none, none, none, some false, none, none, none, some false, none, none, none, some false, none, none, none, none, none, none, none, none, none, some true, none, none, none, none, none, some true, none, none, none, none, none])).map (fun r => (r.1, r.2.obl)) = some (Value.int IntKind.i64 (Int.ofNat 2), (((((((True ∧ (decide (a.o > 2)) = false) ∧ (x.F = x.F ∧ (legOk x a.P a.n))) ∧ (!pathE x a.P a.n) = false) ∧ (a.nx == 0) = false) ∧ (!a.hm) = false) ∧ (!a.hp) = true) ∧ (a.p != 0) = true)) := by kernel_rfl
theorem k30_5 (x : MX) (a : AV) : ((mk Tryz.prog (KQ1 x) 200).call 30 [a.v] (smSt 1 [some (.fam x.F)] [some false, none, none, none, none, some false, none, none, none, some false, none, none, none, some false, none, none, none, none, none, none, none, none, none, some false, none, none, none, none, none, none, none, none, none, none, some true])).map (fun r => (r.1, r.2.obl)) = some (Value.int IntKind.i64 (Int.ofNat 2), ((((((((True ∧ (decide (a.o > 2)) = false) ∧ (x.F = x.F ∧ (legOk x a.P a.n))) ∧ (!pathE x a.P a.n) = false) ∧ (a.nx == 0) = false) ∧ (!a.hm) = false) ∧ (!a.hp) = false) ∧ (x.F = x.F ∧ (numOk x a.Q a.k))) ∧ (!tagsE x a.Q a.k) = true)) := by kernel_rfl
theorem k30_6 (x : MX) (a : AV) : ((mk Tryz.prog (KQ1 x) 200).call 30 [a.v] (smSt 1 [some (.fam x.F)] [some false, none, none, none, none, some false, none, none, none, some false, none, none, none, some false, none, none, none, none, none, none, none, none, none, some false, none, none, none, none, none, none, none, none, none, none, some false])).map (fun r => (r.1, r.2.obl)) = some (Value.int IntKind.i64 (Int.ofNat 0), ((((((((True ∧ (decide (a.o > 2)) = false) ∧ (x.F = x.F ∧ (legOk x a.P a.n))) ∧ (!pathE x a.P a.n) = false) ∧ (a.nx == 0) = false) ∧ (!a.hm) = false) ∧ (!a.hp) = false) ∧ (x.F = x.F ∧ (numOk x a.Q a.k))) ∧ (!tagsE x a.Q a.k) = false)) := by kernel_rfl
theorem k30_7 (x : MX) (a : AV) : ((mk Tryz.prog (KQ1 x) 200).call 30 [a.v] (smSt 1 [some (.fam x.F)] [some false, none, none, none, none, some false, none, none, none, some false, none, none, none, some false, none, none, none, none, none, none, none, none, none, some true, none, none, none, none, none, some false, none, none, none, none, some true])).map (fun r => (r.1, r.2.obl)) = some (Value.int IntKind.i64 (Int.ofNat 2), (((((((((True ∧ (decide (a.o > 2)) = false) ∧ (x.F = x.F ∧ (legOk x a.P a.n))) ∧ (!pathE x a.P a.n) = false) ∧ (a.nx == 0) = false) ∧ (!a.hm) = false) ∧ (!a.hp) = true) ∧ (a.p != 0) = false) ∧ (x.F = x.F ∧ (numOk x a.Q a.k))) ∧ (!tagsE x a.Q a.k) = true)) := by kernel_rfl
theorem k30_8 (x : MX) (a : AV) : ((mk Tryz.prog (KQ1 x) 200).call 30 [a.v] (smSt 1 [some (.fam x.F)] [some false, none, none, none, none, some false, none, none, none, some false, none, none, none, some false, none, none, none, none, none, none, none, none, none, some true, none, none, none, none, none, some false, none, none, none, none, some false])).map (fun r => (r.1, r.2.obl)) = some (Value.int IntKind.i64 (Int.ofNat 0), (((((((((True ∧ (decide (a.o > 2)) = false) ∧ (x.F = x.F ∧ (legOk x a.P a.n))) ∧ (!pathE x a.P a.n) = false) ∧ (a.nx == 0) = false) ∧ (!a.hm) = false) ∧ (!a.hp) = true) ∧ (a.p != 0) = false) ∧ (x.F = x.F ∧ (numOk x a.Q a.k))) ∧ (!tagsE x a.Q a.k) = false)) := by kernel_rfl
theorem k30_9 (x : MX) (a : AV) : ((mk Tryz.prog (KQ1 x) 200).call 30 [a.v] (smSt 1 [some (.fam x.F)] [some false, none, none, none, none, some false, none, none, none, some false, none, none, none, some true, none, none, none, none, none, some false, none, none, none, some true, none, none, none, none, none, some true, none, none, none, none, none])).map (fun r => (r.1, r.2.obl)) = some (Value.int IntKind.i64 (Int.ofNat 2), ((((((((True ∧ (decide (a.o > 2)) = false) ∧ (x.F = x.F ∧ (legOk x a.P a.n))) ∧ (!pathE x a.P a.n) = false) ∧ (a.nx == 0) = false) ∧ (!a.hm) = true) ∧ (a.m != 0) = false) ∧ (!a.hp) = true) ∧ (a.p != 0) = true)) := by kernel_rfl
theorem k30_10 (x : MX) (a : AV) : ((mk Tryz.prog (KQ1 x) 200).call 30 [a.v] (smSt 1 [some (.fam x.F)] [some false, none, none, none, none, some false, none, none, none, some false, none, none, none, some true, none, none, none, none, none, some false, none, none, none, some false, none, none, none, none, none, none, none, none, none, none, some true])).map (fun r => (r.1, r.2.obl)) = some (Value.int IntKind.i64 (Int.ofNat 2), (((((((((True ∧ (decide (a.o > 2)) = false) ∧ (x.F = x.F ∧ (legOk x a.P a.n))) ∧ (!pathE x a.P a.n) = false) ∧ (a.nx == 0) = false) ∧ (!a.hm) = true) ∧ (a.m != 0) = false) ∧ (!a.hp) = false) ∧ (x.F = x.F ∧ (numOk x a.Q a.k))) ∧ (!tagsE x a.Q a.k) = true)) := by kernel_rfl
theorem k30_11 (x : MX) (a : AV) : ((mk Tryz.prog (KQ1 x) 200).call 30 [a.v] (smSt 1 [some (.fam x.F)] [some false, none, none, none, none, some false, none, none, none, some false, none, none, none, some true, none, none, none, none, none, some false, none, none, none, some false, none, none, none, none, none, none, none, none, none, none, some false])).map (fun r => (r.1, r.2.obl)) = some (Value.int IntKind.i64 (Int.ofNat 0), (((((((((True ∧ (decide (a.o > 2)) = false) ∧ (x.F = x.F ∧ (legOk x a.P a.n))) ∧ (!pathE x a.P a.n) = false) ∧ (a.nx == 0) = false) ∧ (!a.hm) = true) ∧ (a.m != 0) = false) ∧ (!a.hp) = false) ∧ (x.F = x.F ∧ (numOk x a.Q a.k))) ∧ (!tagsE x a.Q a.k) = false)) := by kernel_rfl
theorem k30_12 (x : MX) (a : AV) : ((mk Tryz.prog (KQ1 x) 200).call 30 [a.v] (smSt 1 [some (.fam x.F)] [some false, none, none, none, none, some false, none, none, none, some false, none, none, none, some true, none, none, none, none, none, some false, none, none, none, some true, none, none, none, none, none, some false, none, none, none, none, some true])).map (fun r => (r.1, r.2.obl)) = some (Value.int IntKind.i64 (Int.ofNat 2), ((((((((((True ∧ (decide (a.o > 2)) = false) ∧ (x.F = x.F ∧ (legOk x a.P a.n))) ∧ (!pathE x a.P a.n) = false) ∧ (a.nx == 0) = false) ∧ (!a.hm) = true) ∧ (a.m != 0) = false) ∧ (!a.hp) = true) ∧ (a.p != 0) = false) ∧ (x.F = x.F ∧ (numOk x a.Q a.k))) ∧ (!tagsE x a.Q a.k) = true)) := by kernel_rfl
theorem k30_13 (x : MX) (a : AV) : ((mk Tryz.prog (KQ1 x) 200).call 30 [a.v] (smSt 1 [some (.fam x.F)] [some false, none, none, none, none, some false, none, none, none, some false, none, none, none, some true, none, none, none, none, none, some false, none, none, none, some true, none, none, none, none, none, some false, none, none, none, none, some false])).map (fun r => (r.1, r.2.obl)) = some (Value.int IntKind.i64 (Int.ofNat 0), ((((((((((True ∧ (decide (a.o > 2)) = false) ∧ (x.F = x.F ∧ (legOk x a.P a.n))) ∧ (!pathE x a.P a.n) = false) ∧ (a.nx == 0) = false) ∧ (!a.hm) = true) ∧ (a.m != 0) = false) ∧ (!a.hp) = true) ∧ (a.p != 0) = false) ∧ (x.F = x.F ∧ (numOk x a.Q a.k))) ∧ (!tagsE x a.Q a.k) = false)) := by kernel_rfl
theorem rd30 {x : MX} {a : AV} (hA : avOk x a) : Rd Tryz.prog x.F 30 [a.v] (.int .i64 (errI (attrsE x a))) := by
  rcases Bool.eq_false_or_eq_true (decide (a.o > 2)) with h0 | h0
  · skip
    rw [show (.int .i64 (errI (attrsE x a)) : Value) = Value.int IntKind.i64 (Int.ofNat 2) from by have g_h0 : decide (a.o ≤ 2) = false := (by have := of_decide_eq_true h0; exact decide_eq_false (by omega)); simp only [attrsE, g_h0, Bool.true_and, Bool.and_true, Bool.false_and, Bool.and_false, Bool.true_or, Bool.false_or, Bool.or_true, Bool.or_false, Bool.not_true, Bool.not_false]; rfl]
    exact Rd.run pg (KQ1_ok x) (k30_0 x a) ⟨trivial, h0⟩ rfl
  · skip
    rcases Bool.eq_false_or_eq_true (!pathE x a.P a.n) with h1 | h1
    · skip
      rw [show (.int .i64 (errI (attrsE x a)) : Value) = Value.int IntKind.i64 (Int.ofNat 2) from by have g_h0 : decide (a.o ≤ 2) = true := (by have := of_decide_eq_false h0; exact decide_eq_true (by omega)); have g_h1 : pathE x a.P a.n = false := (by simpa using h1); simp only [attrsE, g_h0, g_h1, Bool.true_and, Bool.and_true, Bool.false_and, Bool.and_false, Bool.true_or, Bool.false_or, Bool.or_true, Bool.or_false, Bool.not_true, Bool.not_false]; rfl]
      exact Rd.run pg (KQ1_ok x) (k30_1 x a) ⟨⟨⟨trivial, h0⟩, ⟨rfl, by exact hA.1⟩⟩, h1⟩ rfl
    · skip
      rcases Bool.eq_false_or_eq_true (a.nx == 0) with h2 | h2
      · skip
        rw [show (.int .i64 (errI (attrsE x a)) : Value) = Value.int IntKind.i64 (Int.ofNat 2) from by have g_h0 : decide (a.o ≤ 2) = true := (by have := of_decide_eq_false h0; exact decide_eq_true (by omega)); have g_h1 : pathE x a.P a.n = true := (by simpa using h1); have g_h2 := h2; simp only [attrsE, g_h0, g_h1, g_h2, Bool.true_and, Bool.and_true, Bool.false_and, Bool.and_false, Bool.true_or, Bool.false_or, Bool.or_true, Bool.or_false, Bool.not_true, Bool.not_false]; rfl]
        exact Rd.run pg (KQ1_ok x) (k30_2 x a) ⟨⟨⟨⟨trivial, h0⟩, ⟨rfl, by exact hA.1⟩⟩, h1⟩, h2⟩ rfl
      · skip
        rcases Bool.eq_false_or_eq_true (!a.hm) with h3 | h3
        · skip
          rcases Bool.eq_false_or_eq_true (a.m != 0) with h4 | h4
          · skip
            rw [show (.int .i64 (errI (attrsE x a)) : Value) = Value.int IntKind.i64 (Int.ofNat 2) from by have g_h0 : decide (a.o ≤ 2) = true := (by have := of_decide_eq_false h0; exact decide_eq_true (by omega)); have g_h1 : pathE x a.P a.n = true := (by simpa using h1); have g_h2 := h2; have g_h3 : a.hm = false := (by simpa using h3); have g_h4 : (a.m == 0) = false := (by simpa using h4); simp only [attrsE, g_h0, g_h1, g_h2, g_h3, g_h4, Bool.true_and, Bool.and_true, Bool.false_and, Bool.and_false, Bool.true_or, Bool.false_or, Bool.or_true, Bool.or_false, Bool.not_true, Bool.not_false]; rfl]
            exact Rd.run pg (KQ1_ok x) (k30_3 x a) ⟨⟨⟨⟨⟨⟨trivial, h0⟩, ⟨rfl, by exact hA.1⟩⟩, h1⟩, h2⟩, h3⟩, h4⟩ rfl
          · skip
            rcases Bool.eq_false_or_eq_true (!a.hp) with h5 | h5
            · skip
              rcases Bool.eq_false_or_eq_true (a.p != 0) with h6 | h6
              · skip
                rw [show (.int .i64 (errI (attrsE x a)) : Value) = Value.int IntKind.i64 (Int.ofNat 2) from by have g_h0 : decide (a.o ≤ 2) = true := (by have := of_decide_eq_false h0; exact decide_eq_true (by omega)); have g_h1 : pathE x a.P a.n = true := (by simpa using h1); have g_h2 := h2; have g_h3 : a.hm = false := (by simpa using h3); have g_h4 : (a.m == 0) = true := (by simpa using h4); have g_h5 : a.hp = false := (by simpa using h5); have g_h6 : (a.p == 0) = false := (by simpa using h6); simp only [attrsE, g_h0, g_h1, g_h2, g_h3, g_h4, g_h5, g_h6, Bool.true_and, Bool.and_true, Bool.false_and, Bool.and_false, Bool.true_or, Bool.false_or, Bool.or_true, Bool.or_false, Bool.not_true, Bool.not_false]; rfl]
                exact Rd.run pg (KQ1_ok x) (k30_9 x a) ⟨⟨⟨⟨⟨⟨⟨⟨trivial, h0⟩, ⟨rfl, by exact hA.1⟩⟩, h1⟩, h2⟩, h3⟩, h4⟩, h5⟩, h6⟩ rfl
              · skip
                rcases Bool.eq_false_or_eq_true (!tagsE x a.Q a.k) with h7 | h7
                · skip
                  rw [show (.int .i64 (errI (attrsE x a)) : Value) = Value.int IntKind.i64 (Int.ofNat 2) from by have g_h0 : decide (a.o ≤ 2) = true := (by have := of_decide_eq_false h0; exact decide_eq_true (by omega)); have g_h1 : pathE x a.P a.n = true := (by simpa using h1); have g_h2 := h2; have g_h3 : a.hm = false := (by simpa using h3); have g_h4 : (a.m == 0) = true := (by simpa using h4); have g_h5 : a.hp = false := (by simpa using h5); have g_h6 : (a.p == 0) = true := (by simpa using h6); have g_h7 : tagsE x a.Q a.k = false := (by simpa using h7); simp only [attrsE, g_h0, g_h1, g_h2, g_h3, g_h4, g_h5, g_h6, g_h7, Bool.true_and, Bool.and_true, Bool.false_and, Bool.and_false, Bool.true_or, Bool.false_or, Bool.or_true, Bool.or_false, Bool.not_true, Bool.not_false]; rfl]
                  exact Rd.run pg (KQ1_ok x) (k30_12 x a) ⟨⟨⟨⟨⟨⟨⟨⟨⟨⟨trivial, h0⟩, ⟨rfl, by exact hA.1⟩⟩, h1⟩, h2⟩, h3⟩, h4⟩, h5⟩, h6⟩, ⟨rfl, by exact hA.2⟩⟩, h7⟩ rfl
                · skip
                  rw [show (.int .i64 (errI (attrsE x a)) : Value) = Value.int IntKind.i64 (Int.ofNat 0) from by have g_h0 : decide (a.o ≤ 2) = true := (by have := of_decide_eq_false h0; exact decide_eq_true (by omega)); have g_h1 : pathE x a.P a.n = true := (by simpa using h1); have g_h2 := h2; have g_h3 : a.hm = false := (by simpa using h3); have g_h4 : (a.m == 0) = true := (by simpa using h4); have g_h5 : a.hp = false := (by simpa using h5); have g_h6 : (a.p == 0) = true := (by simpa using h6); have g_h7 : tagsE x a.Q a.k = true := (by simpa using h7); simp only [attrsE, g_h0, g_h1, g_h2, g_h3, g_h4, g_h5, g_h6, g_h7, Bool.true_and, Bool.and_true, Bool.false_and, Bool.and_false, Bool.true_or, Bool.false_or, Bool.or_true, Bool.or_false, Bool.not_true, Bool.not_false]; rfl]
                  exact Rd.run pg (KQ1_ok x) (k30_13 x a) ⟨⟨⟨⟨⟨⟨⟨⟨⟨⟨trivial, h0⟩, ⟨rfl, by exact hA.1⟩⟩, h1⟩, h2⟩, h3⟩, h4⟩, h5⟩, h6⟩, ⟨rfl, by exact hA.2⟩⟩, h7⟩ rfl
            · skip
              rcases Bool.eq_false_or_eq_true (!tagsE x a.Q a.k) with h6 | h6
              · skip
                rw [show (.int .i64 (errI (attrsE x a)) : Value) = Value.int IntKind.i64 (Int.ofNat 2) from by have g_h0 : decide (a.o ≤ 2) = true := (by have := of_decide_eq_false h0; exact decide_eq_true (by omega)); have g_h1 : pathE x a.P a.n = true := (by simpa using h1); have g_h2 := h2; have g_h3 : a.hm = false := (by simpa using h3); have g_h4 : (a.m == 0) = true := (by simpa using h4); have g_h5 : a.hp = true := (by simpa using h5); have g_h6 : tagsE x a.Q a.k = false := (by simpa using h6); simp only [attrsE, g_h0, g_h1, g_h2, g_h3, g_h4, g_h5, g_h6, Bool.true_and, Bool.and_true, Bool.false_and, Bool.and_false, Bool.true_or, Bool.false_or, Bool.or_true, Bool.or_false, Bool.not_true, Bool.not_false]; rfl]
                exact Rd.run pg (KQ1_ok x) (k30_10 x a) ⟨⟨⟨⟨⟨⟨⟨⟨⟨trivial, h0⟩, ⟨rfl, by exact hA.1⟩⟩, h1⟩, h2⟩, h3⟩, h4⟩, h5⟩, ⟨rfl, by exact hA.2⟩⟩, h6⟩ rfl
              · skip
                rw [show (.int .i64 (errI (attrsE x a)) : Value) = Value.int IntKind.i64 (Int.ofNat 0) from by have g_h0 : decide (a.o ≤ 2) = true := (by have := of_decide_eq_false h0; exact decide_eq_true (by omega)); have g_h1 : pathE x a.P a.n = true := (by simpa using h1); have g_h2 := h2; have g_h3 : a.hm = false := (by simpa using h3); have g_h4 : (a.m == 0) = true := (by simpa using h4); have g_h5 : a.hp = true := (by simpa using h5); have g_h6 : tagsE x a.Q a.k = true := (by simpa using h6); simp only [attrsE, g_h0, g_h1, g_h2, g_h3, g_h4, g_h5, g_h6, Bool.true_and, Bool.and_true, Bool.false_and, Bool.and_false, Bool.true_or, Bool.false_or, Bool.or_true, Bool.or_false, Bool.not_true, Bool.not_false]; rfl]
                exact Rd.run pg (KQ1_ok x) (k30_11 x a) ⟨⟨⟨⟨⟨⟨⟨⟨⟨trivial, h0⟩, ⟨rfl, by exact hA.1⟩⟩, h1⟩, h2⟩, h3⟩, h4⟩, h5⟩, ⟨rfl, by exact hA.2⟩⟩, h6⟩ rfl
        · skip
          rcases Bool.eq_false_or_eq_true (!a.hp) with h4 | h4
          · skip
            rcases Bool.eq_false_or_eq_true (a.p != 0) with h5 | h5
            · skip
              rw [show (.int .i64 (errI (attrsE x a)) : Value) = Value.int IntKind.i64 (Int.ofNat 2) from by have g_h0 : decide (a.o ≤ 2) = true := (by have := of_decide_eq_false h0; exact decide_eq_true (by omega)); have g_h1 : pathE x a.P a.n = true := (by simpa using h1); have g_h2 := h2; have g_h3 : a.hm = true := (by simpa using h3); have g_h4 : a.hp = false := (by simpa using h4); have g_h5 : (a.p == 0) = false := (by simpa using h5); simp only [attrsE, g_h0, g_h1, g_h2, g_h3, g_h4, g_h5, Bool.true_and, Bool.and_true, Bool.false_and, Bool.and_false, Bool.true_or, Bool.false_or, Bool.or_true, Bool.or_false, Bool.not_true, Bool.not_false]; rfl]
              exact Rd.run pg (KQ1_ok x) (k30_4 x a) ⟨⟨⟨⟨⟨⟨⟨trivial, h0⟩, ⟨rfl, by exact hA.1⟩⟩, h1⟩, h2⟩, h3⟩, h4⟩, h5⟩ rfl
            · skip
              rcases Bool.eq_false_or_eq_true (!tagsE x a.Q a.k) with h6 | h6
              · skip
                rw [show (.int .i64 (errI (attrsE x a)) : Value) = Value.int IntKind.i64 (Int.ofNat 2) from by have g_h0 : decide (a.o ≤ 2) = true := (by have := of_decide_eq_false h0; exact decide_eq_true (by omega)); have g_h1 : pathE x a.P a.n = true := (by simpa using h1); have g_h2 := h2; have g_h3 : a.hm = true := (by simpa using h3); have g_h4 : a.hp = false := (by simpa using h4); have g_h5 : (a.p == 0) = true := (by simpa using h5); have g_h6 : tagsE x a.Q a.k = false := (by simpa using h6); simp only [attrsE, g_h0, g_h1, g_h2, g_h3, g_h4, g_h5, g_h6, Bool.true_and, Bool.and_true, Bool.false_and, Bool.and_false, Bool.true_or, Bool.false_or, Bool.or_true, Bool.or_false, Bool.not_true, Bool.not_false]; rfl]
                exact Rd.run pg (KQ1_ok x) (k30_7 x a) ⟨⟨⟨⟨⟨⟨⟨⟨⟨trivial, h0⟩, ⟨rfl, by exact hA.1⟩⟩, h1⟩, h2⟩, h3⟩, h4⟩, h5⟩, ⟨rfl, by exact hA.2⟩⟩, h6⟩ rfl
              · skip
                rw [show (.int .i64 (errI (attrsE x a)) : Value) = Value.int IntKind.i64 (Int.ofNat 0) from by have g_h0 : decide (a.o ≤ 2) = true := (by have := of_decide_eq_false h0; exact decide_eq_true (by omega)); have g_h1 : pathE x a.P a.n = true := (by simpa using h1); have g_h2 := h2; have g_h3 : a.hm = true := (by simpa using h3); have g_h4 : a.hp = false := (by simpa using h4); have g_h5 : (a.p == 0) = true := (by simpa using h5); have g_h6 : tagsE x a.Q a.k = true := (by simpa using h6); simp only [attrsE, g_h0, g_h1, g_h2, g_h3, g_h4, g_h5, g_h6, Bool.true_and, Bool.and_true, Bool.false_and, Bool.and_false, Bool.true_or, Bool.false_or, Bool.or_true, Bool.or_false, Bool.not_true, Bool.not_false]; rfl]
                exact Rd.run pg (KQ1_ok x) (k30_8 x a) ⟨⟨⟨⟨⟨⟨⟨⟨⟨trivial, h0⟩, ⟨rfl, by exact hA.1⟩⟩, h1⟩, h2⟩, h3⟩, h4⟩, h5⟩, ⟨rfl, by exact hA.2⟩⟩, h6⟩ rfl
          · skip
            rcases Bool.eq_false_or_eq_true (!tagsE x a.Q a.k) with h5 | h5
            · skip
              rw [show (.int .i64 (errI (attrsE x a)) : Value) = Value.int IntKind.i64 (Int.ofNat 2) from by have g_h0 : decide (a.o ≤ 2) = true := (by have := of_decide_eq_false h0; exact decide_eq_true (by omega)); have g_h1 : pathE x a.P a.n = true := (by simpa using h1); have g_h2 := h2; have g_h3 : a.hm = true := (by simpa using h3); have g_h4 : a.hp = true := (by simpa using h4); have g_h5 : tagsE x a.Q a.k = false := (by simpa using h5); simp only [attrsE, g_h0, g_h1, g_h2, g_h3, g_h4, g_h5, Bool.true_and, Bool.and_true, Bool.false_and, Bool.and_false, Bool.true_or, Bool.false_or, Bool.or_true, Bool.or_false, Bool.not_true, Bool.not_false]; rfl]
              exact Rd.run pg (KQ1_ok x) (k30_5 x a) ⟨⟨⟨⟨⟨⟨⟨⟨trivial, h0⟩, ⟨rfl, by exact hA.1⟩⟩, h1⟩, h2⟩, h3⟩, h4⟩, ⟨rfl, by exact hA.2⟩⟩, h5⟩ rfl
            · skip
              rw [show (.int .i64 (errI (attrsE x a)) : Value) = Value.int IntKind.i64 (Int.ofNat 0) from by have g_h0 : decide (a.o ≤ 2) = true := (by have := of_decide_eq_false h0; exact decide_eq_true (by omega)); have g_h1 : pathE x a.P a.n = true := (by simpa using h1); have g_h2 := h2; have g_h3 : a.hm = true := (by simpa using h3); have g_h4 : a.hp = true := (by simpa using h4); have g_h5 : tagsE x a.Q a.k = true := (by simpa using h5); simp only [attrsE, g_h0, g_h1, g_h2, g_h3, g_h4, g_h5, Bool.true_and, Bool.and_true, Bool.false_and, Bool.and_false, Bool.true_or, Bool.false_or, Bool.or_true, Bool.or_false, Bool.not_true, Bool.not_false]; rfl]
              exact Rd.run pg (KQ1_ok x) (k30_6 x a) ⟨⟨⟨⟨⟨⟨⟨⟨trivial, h0⟩, ⟨rfl, by exact hA.1⟩⟩, h1⟩, h2⟩, h3⟩, h4⟩, ⟨rfl, by exact hA.2⟩⟩, h5⟩ rfl
theorem k21_0 (x : MX) (a : AV) : ((mk Tryz.prog (KQ1 x) 200).call 21 [a.v] (smSt 1 [some (.fam x.F)] [some true, none, none, none, some true, none, none, none, some true, none, none, some true, none, none, none, none, none, none, none, none, some true, none, none, none, none, none, none, none, none, none, none, some true, none, none, none])).map (fun r => (r.1, r.2.obl)) = some (Value.bool (riseE x a.Q a.k), ((((((((True ∧ (decide (a.o ≤ 2)) = true) ∧ (x.F = x.F ∧ (legOk x a.P a.n))) ∧ (pathE x a.P a.n) = true) ∧ (a.nx != 0) = true) ∧ (a.hm) = true) ∧ (a.hp) = true) ∧ (decide (nI a.k ≤ 16)) = true) ∧ (x.F = x.F ∧ (numOk x a.Q a.k)))) := by kernel_rfl
theorem k21_1 (x : MX) (a : AV) : ((mk Tryz.prog (KQ1 x) 200).call 21 [a.v] (smSt 1 [some (.fam x.F)] [some false, none, none, none, none, none, none, none, none, none, none, none, none, none, none, none, none, none, none, none, none, none, none, none, none, none, none])).map (fun r => (r.1, r.2.obl)) = some (Value.bool false, (True ∧ (decide (a.o ≤ 2)) = false)) := by kernel_rfl
theorem k21_2 (x : MX) (a : AV) : ((mk Tryz.prog (KQ1 x) 200).call 21 [a.v] (smSt 1 [some (.fam x.F)] [some true, none, none, none, some false, none, none, none, none, none, none, none, none, none, none, none, none, none, none, none, none, none, none, none, none, none, none])).map (fun r => (r.1, r.2.obl)) = some (Value.bool false, (((True ∧ (decide (a.o ≤ 2)) = true) ∧ (x.F = x.F ∧ (legOk x a.P a.n))) ∧ (pathE x a.P a.n) = false)) := by kernel_rfl
theorem k21_3 (x : MX) (a : AV) : ((mk Tryz.prog (KQ1 x) 200).call 21 [a.v] (smSt 1 [some (.fam x.F)] [some true, none, none, none, some true, none, none, none, some false, none, none, none, none, none, none, none, none, none, none, none, none, none, none, none, none, none, none])).map (fun r => (r.1, r.2.obl)) = some (Value.bool false, ((((True ∧ (decide (a.o ≤ 2)) = true) ∧ (x.F = x.F ∧ (legOk x a.P a.n))) ∧ (pathE x a.P a.n) = true) ∧ (a.nx != 0) = false)) := by kernel_rfl
theorem k21_4 (x : MX) (a : AV) : ((mk Tryz.prog (KQ1 x) 200).call 21 [a.v] (smSt 1 [some (.fam x.F)] [some true, none, none, none, some true, none, none, none, some true, none, none, some false, none, none, none, none, none, some true, none, none, some true, none, none, none, none, none, none, none, none, none, none, some true, none, none, none])).map (fun r => (r.1, r.2.obl)) = some (Value.bool (riseE x a.Q a.k), (((((((((True ∧ (decide (a.o ≤ 2)) = true) ∧ (x.F = x.F ∧ (legOk x a.P a.n))) ∧ (pathE x a.P a.n) = true) ∧ (a.nx != 0) = true) ∧ (a.hm) = false) ∧ (a.m == 0) = true) ∧ (a.hp) = true) ∧ (decide (nI a.k ≤ 16)) = true) ∧ (x.F = x.F ∧ (numOk x a.Q a.k)))) := by kernel_rfl
theorem k21_5 (x : MX) (a : AV) : ((mk Tryz.prog (KQ1 x) 200).call 21 [a.v] (smSt 1 [some (.fam x.F)] [some true, none, none, none, some true, none, none, none, some true, none, none, some false, none, none, none, none, none, some false, none, none, none, none, none, none, none, none, none, none, none, none, none])).map (fun r => (r.1, r.2.obl)) = some (Value.bool false, ((((((True ∧ (decide (a.o ≤ 2)) = true) ∧ (x.F = x.F ∧ (legOk x a.P a.n))) ∧ (pathE x a.P a.n) = true) ∧ (a.nx != 0) = true) ∧ (a.hm) = false) ∧ (a.m == 0) = false)) := by kernel_rfl
theorem k21_6 (x : MX) (a : AV) : ((mk Tryz.prog (KQ1 x) 200).call 21 [a.v] (smSt 1 [some (.fam x.F)] [some true, none, none, none, some true, none, none, none, some true, none, none, some false, none, none, none, none, none, some true, none, none, some false, none, none, none, none, none, some true, none, none, none, none, some true, none, none, none])).map (fun r => (r.1, r.2.obl)) = some (Value.bool (riseE x a.Q a.k), ((((((((((True ∧ (decide (a.o ≤ 2)) = true) ∧ (x.F = x.F ∧ (legOk x a.P a.n))) ∧ (pathE x a.P a.n) = true) ∧ (a.nx != 0) = true) ∧ (a.hm) = false) ∧ (a.m == 0) = true) ∧ (a.hp) = false) ∧ (a.p == 0) = true) ∧ (decide (nI a.k ≤ 16)) = true) ∧ (x.F = x.F ∧ (numOk x a.Q a.k)))) := by kernel_rfl
theorem k21_7 (x : MX) (a : AV) : ((mk Tryz.prog (KQ1 x) 200).call 21 [a.v] (smSt 1 [some (.fam x.F)] [some true, none, none, none, some true, none, none, none, some true, none, none, some false, none, none, none, none, none, some true, none, none, some false, none, none, none, none, none, some false, none, none, none, none, none, none, none, none])).map (fun r => (r.1, r.2.obl)) = some (Value.bool false, ((((((((True ∧ (decide (a.o ≤ 2)) = true) ∧ (x.F = x.F ∧ (legOk x a.P a.n))) ∧ (pathE x a.P a.n) = true) ∧ (a.nx != 0) = true) ∧ (a.hm) = false) ∧ (a.m == 0) = true) ∧ (a.hp) = false) ∧ (a.p == 0) = false)) := by kernel_rfl
theorem k21_8 (x : MX) (a : AV) : ((mk Tryz.prog (KQ1 x) 200).call 21 [a.v] (smSt 1 [some (.fam x.F)] [some true, none, none, none, some true, none, none, none, some true, none, none, some false, none, none, none, none, none, some true, none, none, some false, none, none, none, none, none, some true, none, none, none, none, some false, none, none, none])).map (fun r => (r.1, r.2.obl)) = some (Value.bool false, (((((((((True ∧ (decide (a.o ≤ 2)) = true) ∧ (x.F = x.F ∧ (legOk x a.P a.n))) ∧ (pathE x a.P a.n) = true) ∧ (a.nx != 0) = true) ∧ (a.hm) = false) ∧ (a.m == 0) = true) ∧ (a.hp) = false) ∧ (a.p == 0) = true) ∧ (decide (nI a.k ≤ 16)) = false)) := by kernel_rfl
theorem k21_9 (x : MX) (a : AV) : ((mk Tryz.prog (KQ1 x) 200).call 21 [a.v] (smSt 1 [some (.fam x.F)] [some true, none, none, none, some true, none, none, none, some true, none, none, some false, none, none, none, none, none, some true, none, none, some true, none, none, none, none, none, none, none, none, none, none, some false, none, none, none])).map (fun r => (r.1, r.2.obl)) = some (Value.bool false, ((((((((True ∧ (decide (a.o ≤ 2)) = true) ∧ (x.F = x.F ∧ (legOk x a.P a.n))) ∧ (pathE x a.P a.n) = true) ∧ (a.nx != 0) = true) ∧ (a.hm) = false) ∧ (a.m == 0) = true) ∧ (a.hp) = true) ∧ (decide (nI a.k ≤ 16)) = false)) := by kernel_rfl
theorem k21_10 (x : MX) (a : AV) : ((mk Tryz.prog (KQ1 x) 200).call 21 [a.v] (smSt 1 [some (.fam x.F)] [some true, none, none, none, some true, none, none, none, some true, none, none, some true, none, none, none, none, none, none, none, none, some false, none, none, none, none, none, some true, none, none, none, none, some true, none, none, none])).map (fun r => (r.1, r.2.obl)) = some (Value.bool (riseE x a.Q a.k), (((((((((True ∧ (decide (a.o ≤ 2)) = true) ∧ (x.F = x.F ∧ (legOk x a.P a.n))) ∧ (pathE x a.P a.n) = true) ∧ (a.nx != 0) = true) ∧ (a.hm) = true) ∧ (a.hp) = false) ∧ (a.p == 0) = true) ∧ (decide (nI a.k ≤ 16)) = true) ∧ (x.F = x.F ∧ (numOk x a.Q a.k)))) := by kernel_rfl
theorem k21_11 (x : MX) (a : AV) : ((mk Tryz.prog (KQ1 x) 200).call 21 [a.v] (smSt 1 [some (.fam x.F)] [some true, none, none, none, some true, none, none, none, some true, none, none, some true, none, none, none, none, none, none, none, none, some false, none, none, none, none, none, some false, none, none, none, none, none, none, none, none])).map (fun r => (r.1, r.2.obl)) = some (Value.bool false, (((((((True ∧ (decide (a.o ≤ 2)) = true) ∧ (x.F = x.F ∧ (legOk x a.P a.n))) ∧ (pathE x a.P a.n) = true) ∧ (a.nx != 0) = true) ∧ (a.hm) = true) ∧ (a.hp) = false) ∧ (a.p == 0) = false)) := by kernel_rfl
theorem k21_12 (x : MX) (a : AV) : ((mk Tryz.prog (KQ1 x) 200).call 21 [a.v] (smSt 1 [some (.fam x.F)] [some true, none, none, none, some true, none, none, none, some true, none, none, some true, none, none, none, none, none, none, none, none, some false, none, none, none, none, none, some true, none, none, none, none, some false, none, none, none])).map (fun r => (r.1, r.2.obl)) = some (Value.bool false, ((((((((True ∧ (decide (a.o ≤ 2)) = true) ∧ (x.F = x.F ∧ (legOk x a.P a.n))) ∧ (pathE x a.P a.n) = true) ∧ (a.nx != 0) = true) ∧ (a.hm) = true) ∧ (a.hp) = false) ∧ (a.p == 0) = true) ∧ (decide (nI a.k ≤ 16)) = false)) := by kernel_rfl
theorem k21_13 (x : MX) (a : AV) : ((mk Tryz.prog (KQ1 x) 200).call 21 [a.v] (smSt 1 [some (.fam x.F)] [some true, none, none, none, some true, none, none, none, some true, none, none, some true, none, none, none, none, none, none, none, none, some true, none, none, none, none, none, none, none, none, none, none, some false, none, none, none])).map (fun r => (r.1, r.2.obl)) = some (Value.bool false, (((((((True ∧ (decide (a.o ≤ 2)) = true) ∧ (x.F = x.F ∧ (legOk x a.P a.n))) ∧ (pathE x a.P a.n) = true) ∧ (a.nx != 0) = true) ∧ (a.hm) = true) ∧ (a.hp) = true) ∧ (decide (nI a.k ≤ 16)) = false)) := by kernel_rfl
theorem rd21 {x : MX} {a : AV} (hA : avOk x a) : Rd Tryz.prog x.F 21 [a.v] (.bool (attrsE x a)) := by
  rcases Bool.eq_false_or_eq_true (decide (a.o ≤ 2)) with h0 | h0
  · skip
    rcases Bool.eq_false_or_eq_true (pathE x a.P a.n) with h1 | h1
    · skip
      rcases Bool.eq_false_or_eq_true (a.nx != 0) with h2 | h2
      · skip
        rcases Bool.eq_false_or_eq_true (a.hm) with h3 | h3
        · skip
          rcases Bool.eq_false_or_eq_true (a.hp) with h4 | h4
          · skip
            rcases Bool.eq_false_or_eq_true (decide (nI a.k ≤ 16)) with h5 | h5
            · skip
              rw [show (.bool (attrsE x a) : Value) = Value.bool (riseE x a.Q a.k) from by have g_h2 : (a.nx == 0) = false := (by simpa using h2); simp only [attrsE, tagsE, h0, h1, g_h2, h3, h4, h5, Bool.true_and, Bool.and_true, Bool.false_and, Bool.and_false, Bool.true_or, Bool.false_or, Bool.or_true, Bool.or_false, Bool.not_true, Bool.not_false]]
              exact Rd.run pg (KQ1_ok x) (k21_0 x a) ⟨⟨⟨⟨⟨⟨⟨⟨trivial, h0⟩, ⟨rfl, by exact hA.1⟩⟩, h1⟩, h2⟩, h3⟩, h4⟩, h5⟩, ⟨rfl, by exact hA.2⟩⟩ rfl
            · skip
              rw [show (.bool (attrsE x a) : Value) = Value.bool false from by have g_h2 : (a.nx == 0) = false := (by simpa using h2); simp only [attrsE, tagsE, h0, h1, g_h2, h3, h4, h5, Bool.true_and, Bool.and_true, Bool.false_and, Bool.and_false, Bool.true_or, Bool.false_or, Bool.or_true, Bool.or_false, Bool.not_true, Bool.not_false]]
              exact Rd.run pg (KQ1_ok x) (k21_13 x a) ⟨⟨⟨⟨⟨⟨⟨trivial, h0⟩, ⟨rfl, by exact hA.1⟩⟩, h1⟩, h2⟩, h3⟩, h4⟩, h5⟩ rfl
          · skip
            rcases Bool.eq_false_or_eq_true (a.p == 0) with h5 | h5
            · skip
              rcases Bool.eq_false_or_eq_true (decide (nI a.k ≤ 16)) with h6 | h6
              · skip
                rw [show (.bool (attrsE x a) : Value) = Value.bool (riseE x a.Q a.k) from by have g_h2 : (a.nx == 0) = false := (by simpa using h2); simp only [attrsE, tagsE, h0, h1, g_h2, h3, h4, h5, h6, Bool.true_and, Bool.and_true, Bool.false_and, Bool.and_false, Bool.true_or, Bool.false_or, Bool.or_true, Bool.or_false, Bool.not_true, Bool.not_false]]
                exact Rd.run pg (KQ1_ok x) (k21_10 x a) ⟨⟨⟨⟨⟨⟨⟨⟨⟨trivial, h0⟩, ⟨rfl, by exact hA.1⟩⟩, h1⟩, h2⟩, h3⟩, h4⟩, h5⟩, h6⟩, ⟨rfl, by exact hA.2⟩⟩ rfl
              · skip
                rw [show (.bool (attrsE x a) : Value) = Value.bool false from by have g_h2 : (a.nx == 0) = false := (by simpa using h2); simp only [attrsE, tagsE, h0, h1, g_h2, h3, h4, h5, h6, Bool.true_and, Bool.and_true, Bool.false_and, Bool.and_false, Bool.true_or, Bool.false_or, Bool.or_true, Bool.or_false, Bool.not_true, Bool.not_false]]
                exact Rd.run pg (KQ1_ok x) (k21_12 x a) ⟨⟨⟨⟨⟨⟨⟨⟨trivial, h0⟩, ⟨rfl, by exact hA.1⟩⟩, h1⟩, h2⟩, h3⟩, h4⟩, h5⟩, h6⟩ rfl
            · skip
              rw [show (.bool (attrsE x a) : Value) = Value.bool false from by have g_h2 : (a.nx == 0) = false := (by simpa using h2); simp only [attrsE, tagsE, h0, h1, g_h2, h3, h4, h5, Bool.true_and, Bool.and_true, Bool.false_and, Bool.and_false, Bool.true_or, Bool.false_or, Bool.or_true, Bool.or_false, Bool.not_true, Bool.not_false]]
              exact Rd.run pg (KQ1_ok x) (k21_11 x a) ⟨⟨⟨⟨⟨⟨⟨trivial, h0⟩, ⟨rfl, by exact hA.1⟩⟩, h1⟩, h2⟩, h3⟩, h4⟩, h5⟩ rfl
        · skip
          rcases Bool.eq_false_or_eq_true (a.m == 0) with h4 | h4
          · skip
            rcases Bool.eq_false_or_eq_true (a.hp) with h5 | h5
            · skip
              rcases Bool.eq_false_or_eq_true (decide (nI a.k ≤ 16)) with h6 | h6
              · skip
                rw [show (.bool (attrsE x a) : Value) = Value.bool (riseE x a.Q a.k) from by have g_h2 : (a.nx == 0) = false := (by simpa using h2); simp only [attrsE, tagsE, h0, h1, g_h2, h3, h4, h5, h6, Bool.true_and, Bool.and_true, Bool.false_and, Bool.and_false, Bool.true_or, Bool.false_or, Bool.or_true, Bool.or_false, Bool.not_true, Bool.not_false]]
                exact Rd.run pg (KQ1_ok x) (k21_4 x a) ⟨⟨⟨⟨⟨⟨⟨⟨⟨trivial, h0⟩, ⟨rfl, by exact hA.1⟩⟩, h1⟩, h2⟩, h3⟩, h4⟩, h5⟩, h6⟩, ⟨rfl, by exact hA.2⟩⟩ rfl
              · skip
                rw [show (.bool (attrsE x a) : Value) = Value.bool false from by have g_h2 : (a.nx == 0) = false := (by simpa using h2); simp only [attrsE, tagsE, h0, h1, g_h2, h3, h4, h5, h6, Bool.true_and, Bool.and_true, Bool.false_and, Bool.and_false, Bool.true_or, Bool.false_or, Bool.or_true, Bool.or_false, Bool.not_true, Bool.not_false]]
                exact Rd.run pg (KQ1_ok x) (k21_9 x a) ⟨⟨⟨⟨⟨⟨⟨⟨trivial, h0⟩, ⟨rfl, by exact hA.1⟩⟩, h1⟩, h2⟩, h3⟩, h4⟩, h5⟩, h6⟩ rfl
            · skip
              rcases Bool.eq_false_or_eq_true (a.p == 0) with h6 | h6
              · skip
                rcases Bool.eq_false_or_eq_true (decide (nI a.k ≤ 16)) with h7 | h7
                · skip
                  rw [show (.bool (attrsE x a) : Value) = Value.bool (riseE x a.Q a.k) from by have g_h2 : (a.nx == 0) = false := (by simpa using h2); simp only [attrsE, tagsE, h0, h1, g_h2, h3, h4, h5, h6, h7, Bool.true_and, Bool.and_true, Bool.false_and, Bool.and_false, Bool.true_or, Bool.false_or, Bool.or_true, Bool.or_false, Bool.not_true, Bool.not_false]]
                  exact Rd.run pg (KQ1_ok x) (k21_6 x a) ⟨⟨⟨⟨⟨⟨⟨⟨⟨⟨trivial, h0⟩, ⟨rfl, by exact hA.1⟩⟩, h1⟩, h2⟩, h3⟩, h4⟩, h5⟩, h6⟩, h7⟩, ⟨rfl, by exact hA.2⟩⟩ rfl
                · skip
                  rw [show (.bool (attrsE x a) : Value) = Value.bool false from by have g_h2 : (a.nx == 0) = false := (by simpa using h2); simp only [attrsE, tagsE, h0, h1, g_h2, h3, h4, h5, h6, h7, Bool.true_and, Bool.and_true, Bool.false_and, Bool.and_false, Bool.true_or, Bool.false_or, Bool.or_true, Bool.or_false, Bool.not_true, Bool.not_false]]
                  exact Rd.run pg (KQ1_ok x) (k21_8 x a) ⟨⟨⟨⟨⟨⟨⟨⟨⟨trivial, h0⟩, ⟨rfl, by exact hA.1⟩⟩, h1⟩, h2⟩, h3⟩, h4⟩, h5⟩, h6⟩, h7⟩ rfl
              · skip
                rw [show (.bool (attrsE x a) : Value) = Value.bool false from by have g_h2 : (a.nx == 0) = false := (by simpa using h2); simp only [attrsE, tagsE, h0, h1, g_h2, h3, h4, h5, h6, Bool.true_and, Bool.and_true, Bool.false_and, Bool.and_false, Bool.true_or, Bool.false_or, Bool.or_true, Bool.or_false, Bool.not_true, Bool.not_false]]
                exact Rd.run pg (KQ1_ok x) (k21_7 x a) ⟨⟨⟨⟨⟨⟨⟨⟨trivial, h0⟩, ⟨rfl, by exact hA.1⟩⟩, h1⟩, h2⟩, h3⟩, h4⟩, h5⟩, h6⟩ rfl
          · skip
            rw [show (.bool (attrsE x a) : Value) = Value.bool false from by have g_h2 : (a.nx == 0) = false := (by simpa using h2); simp only [attrsE, tagsE, h0, h1, g_h2, h3, h4, Bool.true_and, Bool.and_true, Bool.false_and, Bool.and_false, Bool.true_or, Bool.false_or, Bool.or_true, Bool.or_false, Bool.not_true, Bool.not_false]]
            exact Rd.run pg (KQ1_ok x) (k21_5 x a) ⟨⟨⟨⟨⟨⟨trivial, h0⟩, ⟨rfl, by exact hA.1⟩⟩, h1⟩, h2⟩, h3⟩, h4⟩ rfl
      · skip
        rw [show (.bool (attrsE x a) : Value) = Value.bool false from by have g_h2 : (a.nx == 0) = true := (by simpa using h2); simp only [attrsE, tagsE, h0, h1, g_h2, Bool.true_and, Bool.and_true, Bool.false_and, Bool.and_false, Bool.true_or, Bool.false_or, Bool.or_true, Bool.or_false, Bool.not_true, Bool.not_false]]
        exact Rd.run pg (KQ1_ok x) (k21_3 x a) ⟨⟨⟨⟨trivial, h0⟩, ⟨rfl, by exact hA.1⟩⟩, h1⟩, h2⟩ rfl
    · skip
      rw [show (.bool (attrsE x a) : Value) = Value.bool false from by simp only [attrsE, tagsE, h0, h1, Bool.true_and, Bool.and_true, Bool.false_and, Bool.and_false, Bool.true_or, Bool.false_or, Bool.or_true, Bool.or_false, Bool.not_true, Bool.not_false]]
      exact Rd.run pg (KQ1_ok x) (k21_2 x a) ⟨⟨⟨trivial, h0⟩, ⟨rfl, by exact hA.1⟩⟩, h1⟩ rfl
  · skip
    rw [show (.bool (attrsE x a) : Value) = Value.bool false from by simp only [attrsE, tagsE, h0, Bool.true_and, Bool.and_true, Bool.false_and, Bool.and_false, Bool.true_or, Bool.false_or, Bool.or_true, Bool.or_false, Bool.not_true, Bool.not_false]]
    exact Rd.run pg (KQ1_ok x) (k21_1 x a) ⟨trivial, h0⟩ rfl
end
end ob
end Go.Proofs.YthpoeegoankpoaaGreat
namespace Go.Proofs.YthpoeegoankpoaaGreat
open Go.ChangeShapes Go.WideShapes Go.ChangeAt Go.RowKit Go.Cln
namespace ob
set_option linter.unusedVariables false
noncomputable section
def ix3 (i : Nat) : Nat := (0 + i * 2 + 1) / 2
theorem ix3_eq (i : Nat) : ix3 i = i := by unfold ix3; omega
noncomputable def isnt2E (x : MX) (P : Nat) (w : Int) (i : Nat) : Bool := !((x.U P).getD (0 + i * 1) 0 == w)
noncomputable def noneE (x : MX) (P : Nat) (w : Int) (i : Nat) : Bool := allB (isnt2E x (x.LQ P (ix3 i)) w) (x.LM P (ix3 i))
noncomputable def hasAnyE (x : MX) (P n : Nat) (w : Int) : Bool := !allB (noneE x P w) n
def b23 : Code := ((Tryz.prog.funcs[23]?).bind (·.body)).getD .skip
def l23 : Code := loopB Tryz.prog 23 0
def e23 : Code := dropC 2 b23
theorem fn23 : (Tryz.prog.funcs[23]?).map (fun f => (f.body, f.results.toList, f.ntmps)) = some (some b23, [.tmp 4], 36) := by kernel_rfl
noncomputable abbrev a23 (a : AV) (w : Int) : List Value := [a.v, .int .u32 w]
noncomputable def z23 (x : MX) (a : AV) (w : Int) : St := { smSt 1 [some (.fam x.F)] [] with tmps := a23 a w ++ List.replicate (36 - (a23 a w).length) undef, defers := [] }
noncomputable def tm23 (v : VF) (a : AV) (w : Int) (i : Nat) : List Value := (a.v :: .int .u32 w :: .pointer (some ⟨1, 0, none⟩) :: v 3 :: v 4 :: .int .i64 (nI i) :: vs v 6 30 [])
theorem tm23_dead {v : VF} {a : AV} {w : Int} {i : Nat} {B : Nat → Bool} (h : ∀ i, DeadV (v i)) (hB : ∀ i, ((Nat.ble 0 i && Nat.ble i 2) || Nat.beq i 5) = true → B i = true) : deadT B 0 (tm23 v a w i) :=
  ⟨fun e => absurd e (by rw [hB 0 rfl]; decide), ⟨fun e => absurd e (by rw [hB 1 rfl]; decide), ⟨fun e => absurd e (by rw [hB 2 rfl]; decide), ⟨fun _ => h 3, ⟨fun _ => h 4, ⟨fun e => absurd e (by rw [hB 5 rfl]; decide), deadT_vs h 30 (trivial)⟩⟩⟩⟩⟩⟩
noncomputable def h23 (x : MX) (a : AV) (w : Int) : Nat → Option Ob := fun i => match i with
  | 0 => some (.fam x.F)
  | 1 => some (.cells (.lit a.l) 33)
  | _ => none
theorem h23_ok (x : MX) (a : AV) (w : Int) : Go.Cln.RowsIn (h23 x a w) := by
  intro b n' w' g' t h
  unfold h23 at h
  split at h <;> first | (cases h; done) | cases h
noncomputable def s23 (x : MX) (a : AV) (w : Int) (i : Nat) (v : VF) : St := ⟨tm23 v a w i, [], Tr.rebuild (h23 x a w) 2, 2, 1, [], fun _ => false, True, []⟩
noncomputable def go23 (K : Given) (c : Code) (s : St) (o : List (Option Bool)) : Option (Exit × St) := (mk Tryz.prog K 200).code 23 none c { s with obl := True, orc := o }
noncomputable def gd23 (K : Given) (s : St) (o : List (Option Bool)) : Option (St × Code) := down (mk Tryz.prog K 200) 23 none [2, 3, 2, 0] b23 { s with obl := True, orc := o }
def WD23 (i : Nat) : Bool := Nat.beq i 4
noncomputable def VD23 (v : VF) : VF := fun i => match WD23 i with
  | true => junk
  | false => v i
def BD23 (i : Nat) : Bool := ((Nat.ble 0 i && Nat.ble i 2) || Nat.beq i 5) || WD23 i
theorem VD23_dead {v : VF} (h : ∀ i, DeadV (v i)) (i : Nat) : DeadV (VD23 v i) := by
  unfold VD23
  split
  · exact DeadV.junk
  · exact h i
theorem lvD23 (i : Nat) (h : ((Nat.ble 0 i && Nat.ble i 2) || Nat.beq i 5) = true) : BD23 i = true := by
  unfold BD23
  simp only [Bool.or_eq_true] at h ⊢
  exact .inl h
def WX23 (i : Nat) : Bool := (Nat.ble 7 i && Nat.ble i 11)
noncomputable def VX23 (v : VF) : VF := fun i => match WX23 i with
  | true => junk
  | false => v i
def BX23 (i : Nat) : Bool := ((Nat.ble 0 i && Nat.ble i 2) || Nat.beq i 5) || WX23 i
theorem VX23_dead {v : VF} (h : ∀ i, DeadV (v i)) (i : Nat) : DeadV (VX23 v i) := by
  unfold VX23
  split
  · exact DeadV.junk
  · exact h i
theorem lvX23 (i : Nat) (h : ((Nat.ble 0 i && Nat.ble i 2) || Nat.beq i 5) = true) : BX23 i = true := by
  unfold BX23
  simp only [Bool.or_eq_true] at h ⊢
  exact .inl h
def l23i : Code := loopB Tryz.prog 23 1
noncomputable abbrev a23i (a : AV) (w : Int) (j : Nat) : List Value := [a.v, .int .u32 w]
noncomputable def z23i (x : MX) (a : AV) (w : Int) (j : Nat) : St := { smSt 1 [some (.fam x.F)] [] with tmps := a23i a w j ++ List.replicate (36 - (a23i a w j).length) undef, defers := [] }
noncomputable def tm23i (v : VF) (a : AV) (w : Int) (j : Nat) (i : Nat) : List Value := (a.v :: .int .u32 w :: .pointer (some ⟨1, 0, none⟩) :: v 3 :: v 4 :: .int .i64 (nI j) :: .int .i64 (nI i) :: vs v 7 29 [])
theorem tm23i_dead {v : VF} {a : AV} {w : Int} {j : Nat} {i : Nat} {B : Nat → Bool} (h : ∀ i, DeadV (v i)) (hB : ∀ i, ((Nat.ble 0 i && Nat.ble i 2) || (Nat.ble 5 i && Nat.ble i 6)) = true → B i = true) : deadT B 0 (tm23i v a w j i) :=
  ⟨fun e => absurd e (by rw [hB 0 rfl]; decide), ⟨fun e => absurd e (by rw [hB 1 rfl]; decide), ⟨fun e => absurd e (by rw [hB 2 rfl]; decide), ⟨fun _ => h 3, ⟨fun _ => h 4, ⟨fun e => absurd e (by rw [hB 5 rfl]; decide), ⟨fun e => absurd e (by rw [hB 6 rfl]; decide), deadT_vs h 29 (trivial)⟩⟩⟩⟩⟩⟩⟩
noncomputable def h23i (x : MX) (a : AV) (w : Int) (j : Nat) : Nat → Option Ob := fun i => match i with
  | 0 => some (.fam x.F)
  | 1 => some (.cells (.lit a.l) 33)
  | _ => none
theorem h23i_ok (x : MX) (a : AV) (w : Int) (j : Nat) : Go.Cln.RowsIn (h23i x a w j) := by
  intro b n' w' g' t h
  unfold h23i at h
  split at h <;> first | (cases h; done) | cases h
noncomputable def s23i (x : MX) (a : AV) (w : Int) (j : Nat) (i : Nat) (v : VF) : St := ⟨tm23i v a w j i, [], Tr.rebuild (h23i x a w j) 2, 2, 1, [], fun _ => false, True, []⟩
noncomputable def go23i (K : Given) (c : Code) (s : St) (o : List (Option Bool)) : Option (Exit × St) := (mk Tryz.prog K 200).code 23 none c { s with obl := True, orc := o }
def WD23i (i : Nat) : Bool := (Nat.ble 7 i && Nat.ble i 11)
noncomputable def VD23i (v : VF) : VF := fun i => match WD23i i with
  | true => junk
  | false => v i
def BD23i (i : Nat) : Bool := ((Nat.ble 0 i && Nat.ble i 2) || (Nat.ble 5 i && Nat.ble i 6)) || WD23i i
theorem VD23i_dead {v : VF} (h : ∀ i, DeadV (v i)) (i : Nat) : DeadV (VD23i v i) := by
  unfold VD23i
  split
  · exact DeadV.junk
  · exact h i
theorem lvD23i (i : Nat) (h : ((Nat.ble 0 i && Nat.ble i 2) || (Nat.ble 5 i && Nat.ble i 6)) = true) : BD23i i = true := by
  unfold BD23i
  simp only [Bool.or_eq_true] at h ⊢
  exact .inl h
def WR23i (i : Nat) : Bool := (Nat.ble 14 i && Nat.ble i 35)
noncomputable def VR23i (v : VF) : VF := fun i => match WR23i i with
  | true => junk
  | false => v i
def BR23i (i : Nat) : Bool := ((Nat.ble 0 i && Nat.ble i 2) || (Nat.ble 5 i && Nat.ble i 6)) || WR23i i
theorem VR23i_dead {v : VF} (h : ∀ i, DeadV (v i)) (i : Nat) : DeadV (VR23i v i) := by
  unfold VR23i
  split
  · exact DeadV.junk
  · exact h i
theorem lvR23i (i : Nat) (h : ((Nat.ble 0 i && Nat.ble i 2) || (Nat.ble 5 i && Nat.ble i 6)) = true) : BR23i i = true := by
  unfold BR23i
  simp only [Bool.or_eq_true] at h ⊢
  exact .inl h
def WX23i (i : Nat) : Bool := (Nat.ble 14 i && Nat.ble i 22)
noncomputable def VX23i (v : VF) : VF := fun i => match WX23i i with
  | true => junk
  | false => v i
def BX23i (i : Nat) : Bool := ((Nat.ble 0 i && Nat.ble i 2) || (Nat.ble 5 i && Nat.ble i 6)) || WX23i i
theorem VX23i_dead {v : VF} (h : ∀ i, DeadV (v i)) (i : Nat) : DeadV (VX23i v i) := by
  unfold VX23i
  split
  · exact DeadV.junk
  · exact h i
theorem lvX23i (i : Nat) (h : ((Nat.ble 0 i && Nat.ble i 2) || (Nat.ble 5 i && Nat.ble i 6)) = true) : BX23i i = true := by
  unfold BX23i
  simp only [Bool.or_eq_true] at h ⊢
  exact .inl h
def pD_23 (x : MX) (a : AV) (w : Int) (i : Nat) : Prop := True
def pX_23 (x : MX) (a : AV) (w : Int) (i : Nat) : Prop := (True ∧ decide (nI i < nI a.n) = false)
def pE0_23 (x : MX) (a : AV) (w : Int) (i : Nat) : Prop := True
theorem kD23 (x : MX) (a : AV) (w : Int) : (gd23 KN (z23 x a w) []).map (fun r => (r.2, r.1.obl, seenInT BD23 r.1 (s23 x a w 0 (VD23 vU)) [0, 1])) = some (.loop l23, pD_23 x a w 0, seenAsT BD23 (s23 x a w 0 (VD23 vU)) [0, 1] 2) := by kernel_rfl
theorem kX23 (x : MX) (a : AV) (w : Int) (i : Nat) (v : VF) : (go23 KN l23 (s23 x a w i v) [some false]).map (fun r => (r.1, r.2.obl, seenInT BX23 r.2 (s23 x a w i (VX23 v)) [0, 1])) = some (.exit 0, pX_23 x a w i, seenAsT BX23 (s23 x a w i (VX23 v)) [0, 1] 2) := by kernel_rfl
theorem kE0_23 (x : MX) (a : AV) (w : Int) (i : Nat) (v : VF) : (go23 KN e23 (s23 x a w i v) []).bind (fun r => (results1 Tryz.prog r.2 [.tmp 4]).map fun q => (r.1, q.2.obl, r.2.defers, oneOf q.1)) = some (.ret, pE0_23 x a w i, [], .bool false) := by kernel_rfl
theorem okD23 (x : MX) (a : AV) (w : Int) (i : Nat) (v : VF) : picOkT BD23 (z23 x a w) (s23 x a w i (VD23 v)) [0, 1] = true := by kernel_rfl
theorem okX23 (x : MX) (a : AV) (w : Int) (i : Nat) (v : VF) : picOkT BX23 (z23 x a w) (s23 x a w i (VX23 v)) [0, 1] = true := by kernel_rfl
theorem up23 (x : MX) (a : AV) (w : Int) (Q_ : Exit → St → Prop) : upQ Tryz.prog none (z23 x a w) [2, 3, 2, 0] b23 Q_ = fun e s => (fun e s => (e = .normal ∧ StepG Tryz.prog none (z23 x a w) e23 s Q_) ∨ (e ≠ .normal ∧ Q_ e s)) (blockOut 0 e) s := by kernel_rfl
def pR_23i (x : MX) (a : AV) (w : Int) (j : Nat) (i : Nat) : Prop := (((((((((True ∧ 0 ≤ nI j ∧ nI j < nI a.n) ∧ (0 + j * 2 + 1) % 2 = 1 ∧ (0 + j * 2 + 1) / 2 < x.LN a.P) ∧ decide (nI i < nI (x.LM a.P (ix3 j))) = true) ∧ 0 ≤ nI j ∧ nI j < nI a.n) ∧ (0 + j * 2 + 1) % 2 = 1 ∧ (0 + j * 2 + 1) / 2 < x.LN a.P) ∧ 0 ≤ nI i ∧ nI i < nI (x.LM a.P (ix3 j))) ∧ 0 + i * 1 < (x.U (x.LQ a.P (ix3 j))).length) ∧ ((x.U (x.LQ a.P (ix3 j))).getD (0 + i * 1) 0 == w) = false) ∧ IntKind.i64.wrap (nI i + 1) = nI i + 1)
def pX_23i (x : MX) (a : AV) (w : Int) (j : Nat) (i : Nat) : Prop := (((True ∧ 0 ≤ nI j ∧ nI j < nI a.n) ∧ (0 + j * 2 + 1) % 2 = 1 ∧ (0 + j * 2 + 1) / 2 < x.LN a.P) ∧ decide (nI i < nI (x.LM a.P (ix3 j))) = false)
def pF0_23i (x : MX) (a : AV) (w : Int) (j : Nat) (i : Nat) : Prop := ((((((((True ∧ 0 ≤ nI j ∧ nI j < nI a.n) ∧ (0 + j * 2 + 1) % 2 = 1 ∧ (0 + j * 2 + 1) / 2 < x.LN a.P) ∧ decide (nI i < nI (x.LM a.P (ix3 j))) = true) ∧ 0 ≤ nI j ∧ nI j < nI a.n) ∧ (0 + j * 2 + 1) % 2 = 1 ∧ (0 + j * 2 + 1) / 2 < x.LN a.P) ∧ 0 ≤ nI i ∧ nI i < nI (x.LM a.P (ix3 j))) ∧ 0 + i * 1 < (x.U (x.LQ a.P (ix3 j))).length) ∧ ((x.U (x.LQ a.P (ix3 j))).getD (0 + i * 1) 0 == w) = true)
theorem kR23i (x : MX) (a : AV) (w : Int) (j : Nat) (i : Nat) (v : VF) : (go23i KN l23i (s23i x a w j i v) [some true, some false, none, some true, some true, some true, some false, none, some true, some true, some true, some false, some true]).map (fun r => (r.1, r.2.obl, seenInT BR23i r.2 (s23i x a w j (i + 1) (VR23i v)) [0, 1])) = some (.normal, pR_23i x a w j i, seenAsT BR23i (s23i x a w j (i + 1) (VR23i v)) [0, 1] 2) := by kernel_rfl
theorem kX23i (x : MX) (a : AV) (w : Int) (j : Nat) (i : Nat) (v : VF) : (go23i KN l23i (s23i x a w j i v) [some true, some false, none, some true, some false]).map (fun r => (r.1, r.2.obl, seenInT BX23i r.2 (s23i x a w j i (VX23i v)) [0, 1])) = some (.exit 2, pX_23i x a w j i, seenAsT BX23i (s23i x a w j i (VX23i v)) [0, 1] 2) := by kernel_rfl
theorem kF0_23i (x : MX) (a : AV) (w : Int) (j : Nat) (i : Nat) (v : VF) : (go23i KN l23i (s23i x a w j i v) [some true, some false, none, some true, some true, some true, some false, none, some true, some true, some true, some true]).bind (fun r => (results1 Tryz.prog r.2 [.tmp 4]).map fun q => (r.1, q.2.obl, r.2.defers, oneOf q.1)) = some (.ret, pF0_23i x a w j i, [], .bool true) := by kernel_rfl
theorem okR23i (x : MX) (a : AV) (w : Int) (j : Nat) (i : Nat) (v : VF) : picOkT BR23i (z23i x a w j) (s23i x a w j i (VR23i v)) [0, 1] = true := by kernel_rfl
theorem okX23i (x : MX) (a : AV) (w : Int) (j : Nat) (i : Nat) (v : VF) : picOkT BX23i (z23i x a w j) (s23i x a w j i (VX23i v)) [0, 1] = true := by kernel_rfl
theorem kDI23 (x : MX) (a : AV) (w : Int) (i : Nat) (v : VF) : (down (mk Tryz.prog KN 200) 23 none [2, 3, 0, 2, 0] l23 { s23 x a w i v with obl := True, orc := [some true] }).map (fun r => (r.2, r.1.obl, seenInT BD23i r.1 (s23i x a w i 0 (VD23i v)) [0, 1])) = some (.loop l23i, True ∧ decide (nI i < nI a.n) = true, seenAsT BD23i (s23i x a w i 0 (VD23i v)) [0, 1] 2) := by kernel_rfl
theorem okDI23 (x : MX) (a : AV) (w : Int) (i : Nat) (v : VF) : picOkT BD23i (z23 x a w) (s23i x a w i 0 (VD23i v)) [0, 1] = true := by kernel_rfl
theorem upI23 (x : MX) (a : AV) (w : Int) (Q_ : Exit → St → Prop) : upQ Tryz.prog none (z23 x a w) [2, 3, 0, 2, 0] l23 Q_ = fun e s => (fun e s => (fun e s => (e = .normal ∧ StepG Tryz.prog none (z23 x a w) (dropC 2 l23) s Q_) ∨ (e ≠ .normal ∧ Q_ e s)) (blockOut 1 e) s) (blockOut 2 e) s := by kernel_rfl
def WN23 (i : Nat) : Bool := Nat.beq i 6 || (Nat.ble 12 i && Nat.ble i 13)
noncomputable def VN23 (v : VF) : VF := fun i => match WN23 i with
  | true => junk
  | false => v i
def BN23 (i : Nat) : Bool := ((Nat.ble 0 i && Nat.ble i 2) || Nat.beq i 5) || WN23 i
theorem VN23_dead {v : VF} (h : ∀ i, DeadV (v i)) (i : Nat) : DeadV (VN23 v i) := by
  unfold VN23
  split
  · exact DeadV.junk
  · exact h i
theorem lvN23 (i : Nat) (h : ((Nat.ble 0 i && Nat.ble i 2) || Nat.beq i 5) = true) : BN23 i = true := by
  unfold BN23
  simp only [Bool.or_eq_true] at h ⊢
  exact .inl h
theorem kNI23 (x : MX) (a : AV) (w : Int) (i k : Nat) (v : VF) : (go23i KN (dropC 2 l23) (s23i x a w i k v) [some true]).map (fun r => (r.1, r.2.obl, seenInT BN23 r.2 (s23 x a w (i + 1) (VN23 v)) [0, 1])) = some (.normal, True ∧ IntKind.i64.wrap (nI i + 1) = nI i + 1, seenAsT BN23 (s23 x a w (i + 1) (VN23 v)) [0, 1] 2) := by kernel_rfl
theorem okNI23 (x : MX) (a : AV) (w : Int) (i : Nat) (v : VF) : picOkT BN23 (z23 x a w) (s23 x a w i (VN23 v)) [0, 1] = true := by kernel_rfl
theorem round23i {x : MX} {a : AV} {w : Int} {j : Nat} (hj : j < a.n) (p1 : a.n ≤ x.LN a.P) (p2 : a.n ≤ 1000) (p3 : ∀ i, i < a.n → numOk x (x.LQ a.P i) (x.LM a.P i)) {v : VF} (hv : ∀ j, DeadV (v j)) {i : Nat} (hi : i < (x.LM a.P (ix3 j))) (he : isnt2E x (x.LQ a.P (ix3 j)) w i = true) : StepG Tryz.prog none (z23 x a w) l23i (s23i x a w j i v) fun ex s => ex = .normal ∧ ∃ v', (∀ j, DeadV (v' j)) ∧ s = s23i x a w j (i + 1) v' := by
  have q2 : x.LM a.P (ix3 j) ≤ 1000 := by rw [ix3_eq]; exact (p3 j hj).2
  refine (StepG.stdT (s0 := z23 x a w) (rd := none) pg KN_ok (kR23i x a w j i v) ?_ (show 1 ≤ 2 by decide) (tm23i_dead (VR23i_dead hv) lvR23i) (h23i_ok x a w j) rfl (okR23i x a w j (i + 1) v)).mono ?_
  · exact ⟨⟨⟨⟨⟨⟨⟨⟨⟨trivial, by unfold nI; omega⟩, by omega⟩, decide_eq_true (by unfold nI; omega)⟩, by unfold nI; omega⟩, by omega⟩, by unfold nI; omega⟩, by have := (p3 j hj).1; rw [ix3_eq] at hi ⊢; omega⟩, by unfold isnt2E at he; simpa using he⟩, by rw [IntKind.wrap_i64]; unfold nI; omega⟩
  · rintro ex s_ ⟨rfl, rfl⟩
    exact ⟨rfl, _, VR23i_dead hv, rfl⟩
theorem exit23i {x : MX} {a : AV} {w : Int} {j : Nat} (hj : j < a.n) (p1 : a.n ≤ x.LN a.P) (p2 : a.n ≤ 1000) {v : VF} (hv : ∀ j, DeadV (v j)) : StepG Tryz.prog none (z23 x a w) l23i (s23i x a w j (x.LM a.P (ix3 j)) v) fun ex s => ex = .exit 2 ∧ ∃ v', (∀ j, DeadV (v' j)) ∧ s = s23i x a w j (x.LM a.P (ix3 j)) v' := by
  refine (StepG.stdT (s0 := z23 x a w) (rd := none) pg KN_ok (kX23i x a w j (x.LM a.P (ix3 j)) v) ⟨⟨⟨trivial, by unfold nI; omega⟩, by omega⟩, decide_eq_false (by unfold nI; omega)⟩ (show 1 ≤ 2 by decide) (tm23i_dead (VX23i_dead hv) lvX23i) (h23i_ok x a w j) rfl (okX23i x a w j (x.LM a.P (ix3 j)) v)).mono ?_
  rintro ex s_ ⟨rfl, rfl⟩
  exact ⟨rfl, _, VX23i_dead hv, rfl⟩
theorem diff23i {x : MX} {a : AV} {w : Int} {j : Nat} (hj : j < a.n) (p1 : a.n ≤ x.LN a.P) (p2 : a.n ≤ 1000) (p3 : ∀ i, i < a.n → numOk x (x.LQ a.P i) (x.LM a.P i)) {v : VF} {i : Nat} (hi : i < (x.LM a.P (ix3 j))) (he : isnt2E x (x.LQ a.P (ix3 j)) w i = false) : StepG Tryz.prog none (z23 x a w) l23i (s23i x a w j i v) fun ex s => ex ≠ .normal ∧ ex = .ret ∧ noneE x a.P w j = false ∧ s.defers = [] ∧ ResV Tryz.prog [.tmp 4] (.bool true) s := by
  have q2 : x.LM a.P (ix3 j) ≤ 1000 := by rw [ix3_eq]; exact (p3 j hj).2
  refine (StepG.ranV (s0 := z23 x a w) (rd := none) pg KN_ok (kF0_23i x a w j i v) ⟨⟨⟨⟨⟨⟨⟨⟨trivial, by unfold nI; omega⟩, by omega⟩, decide_eq_true (by unfold nI; omega)⟩, by unfold nI; omega⟩, by omega⟩, by unfold nI; omega⟩, by have := (p3 j hj).1; rw [ix3_eq] at hi ⊢; omega⟩, by unfold isnt2E at he; simpa using he⟩ (show 1 ≤ 2 by decide)).mono ?_
  rintro ex s ⟨rfl, h1, h2⟩
  exact ⟨(by intro h; cases h), rfl, allB_no he hi, h1, h2⟩
theorem inner23 {x : MX} {a : AV} {w : Int} {i : Nat} (hA : legOk x a.P a.n) (hj : i < a.n) {v : VF} (hv : ∀ j, DeadV (v j)) : StepG Tryz.prog none (z23 x a w) l23 (s23 x a w i v) fun ex s => (ex = .normal ∧ noneE x a.P w i = true ∧ ∃ v', (∀ j, DeadV (v' j)) ∧ s = s23 x a w (i + 1) v') ∨ (ex = .ret ∧ noneE x a.P w i = false ∧ s.defers = [] ∧ ResV Tryz.prog [.tmp 4] (.bool true) s) := by
  obtain ⟨p1, p2, p3⟩ := hA
  refine StepG.downs pg KN_ok (kDI23 x a w i v) ⟨trivial, decide_eq_true (by unfold nI; omega)⟩ (tm23i_dead (VD23i_dead hv) lvD23i) (h23i_ok x a w i) rfl (okDI23 x a w i v) ?_
  rw [upI23]
  refine (findLoop (pic := fun k v => s23i x a w i k v) (e := isnt2E x (x.LQ a.P (ix3 i)) w) (N := x.LM a.P (ix3 i)) (id := 2) (QD := fun ex s => ex = .ret ∧ noneE x a.P w i = false ∧ s.defers = [] ∧ ResV Tryz.prog [.tmp 4] (.bool true) s) (fun k v hv hk he => ?_) (fun k v hv hk hp he => ?_) (fun v hv => ?_) (VD23i_dead hv)).mono ?_
  · exact round23i hj p1 p2 p3 hv hk he
  · exact diff23i hj p1 p2 p3 hk he
  · exact exit23i hj p1 p2 hv
  · rintro ex s (⟨rfl, ha, v', h4, rfl⟩ | ⟨hn, rfl, h5, h6, h7⟩)
    · refine .inl ⟨by simp [blockOut], (StepG.stdT (s0 := z23 x a w) (rd := none) pg KN_ok (kNI23 x a w i (x.LM a.P (ix3 i)) v') ⟨trivial, by rw [IntKind.wrap_i64]; unfold nI; omega⟩ (show 1 ≤ 2 by decide) (tm23_dead (VN23_dead h4) lvN23) (h23_ok x a w) rfl (okNI23 x a w (i + 1) v')).mono ?_⟩
      rintro ex s_ ⟨rfl, rfl⟩
      exact .inl ⟨rfl, allB_all ha, _, VN23_dead h4, rfl⟩
    · exact .inr ⟨by simp [blockOut], .inr ⟨by simp [blockOut], h5, h6, h7⟩⟩
theorem rd23 {x : MX} {a : AV} {w : Int} (hA : legOk x a.P a.n) : Rd Tryz.prog x.F 23 [a.v, .int .u32 w] (.bool (hasAnyE x a.P a.n w)) := by
  unfold hasAnyE
  refine find_rd (way := [2, 3, 2, 0]) (pic := fun i v => s23 x a w i v) (e := noneE x a.P w) (N := a.n) (v0 := VD23 vU) (s0 := z23 x a w) rfl fn23 rfl (fun Q_ h => StepG.downs pg KN_ok (kD23 x a w) (trivial) (tm23_dead (VD23_dead vU_dead) lvD23) (h23_ok x a w) rfl (okD23 x a w 0 vU) h) (up23 x a w) (fun i v hv hi he => ?_) (fun i v hv hi hp he => ?_) (fun v hv => ?_) (fun hall v hv => ?_) (VD23_dead vU_dead)
  · refine (inner23 hA hi hv).mono ?_
    rintro ex s (⟨rfl, h1, h2⟩ | ⟨rfl, h1, h2⟩)
    · exact ⟨rfl, h2⟩
    · rw [he] at h1; cases h1
  · refine (inner23 hA hi hv).mono ?_
    rintro ex s (⟨rfl, h1, h2⟩ | ⟨rfl, h1, h2, h3⟩)
    · rw [he] at h1; cases h1
    · rw [allB_no he hi]; exact ⟨rfl, h2, h3⟩
  · obtain ⟨p1, p2, p3⟩ := hA
    refine (StepG.stdT (s0 := z23 x a w) (rd := none) pg KN_ok (kX23 x a w a.n v) ⟨trivial, decide_eq_false (by unfold nI; omega)⟩ (show 1 ≤ 2 by decide) (tm23_dead (VX23_dead hv) lvX23) (h23_ok x a w) rfl (okX23 x a w a.n v)).mono ?_
    rintro ex s_ ⟨rfl, rfl⟩
    exact ⟨rfl, _, VX23_dead hv, rfl⟩
  · rw [allB_all hall]
    exact StepG.ranV (s0 := z23 x a w) (rd := none) pg KN_ok (kE0_23 x a w a.n v) trivial (show 1 ≤ 2 by decide)
end
end ob
end Go.Proofs.YthpoeegoankpoaaGreat
namespace Go.Proofs.YthpoeegoankpoaaGreat
open Go.ChangeShapes Go.WideShapes Go.ChangeAt Go.RowKit Go.Cln
namespace ob
set_option linter.unusedVariables false
noncomputable section
structure PV where
  P : Nat
  n : Nat
  c : Nat
  e : Bool
def PV.l (a : PV) : List Value := [PR a.P a.n a.c, .bool a.e]
def PV.v (a : PV) : Value := .agg a.l.toArray
noncomputable def fewLegE (x : MX) (P i : Nat) : Bool := !(decide (nI (x.LM P (ix3 i)) > 60))
noncomputable def fewE (x : MX) (p : PV) (a : AV) : Bool := allB (fewLegE x a.P) a.n && (decide (nI p.n ≤ 60) && (decide (nI a.n ≤ 20) && decide (nI a.k ≤ 60)))
def b5 : Code := ((Tryz.prog.funcs[5]?).bind (·.body)).getD .skip
def l5 : Code := loopB Tryz.prog 5 0
def e5 : Code := dropC 2 b5
theorem fn5 : (Tryz.prog.funcs[5]?).map (fun f => (f.body, f.results.toList, f.ntmps)) = some (some b5, [.tmp 4], 37) := by kernel_rfl
noncomputable abbrev a5 (p : PV) (a : AV) : List Value := [p.v, a.v]
noncomputable def z5 (x : MX) (p : PV) (a : AV) : St := { smSt 1 [some (.fam x.F)] [] with tmps := a5 p a ++ List.replicate (37 - (a5 p a).length) undef, defers := [] }
noncomputable def tm5 (v : VF) (p : PV) (a : AV) (i : Nat) : List Value := (p.v :: a.v :: .pointer (some ⟨1, 0, none⟩) :: .pointer (some ⟨2, 0, none⟩) :: v 4 :: .int .i64 (nI i) :: vs v 6 31 [])
theorem tm5_dead {v : VF} {p : PV} {a : AV} {i : Nat} {B : Nat → Bool} (h : ∀ i, DeadV (v i)) (hB : ∀ i, ((Nat.ble 0 i && Nat.ble i 3) || Nat.beq i 5) = true → B i = true) : deadT B 0 (tm5 v p a i) :=
  ⟨fun e => absurd e (by rw [hB 0 rfl]; decide), ⟨fun e => absurd e (by rw [hB 1 rfl]; decide), ⟨fun e => absurd e (by rw [hB 2 rfl]; decide), ⟨fun e => absurd e (by rw [hB 3 rfl]; decide), ⟨fun _ => h 4, ⟨fun e => absurd e (by rw [hB 5 rfl]; decide), deadT_vs h 31 (trivial)⟩⟩⟩⟩⟩⟩
noncomputable def h5 (x : MX) (p : PV) (a : AV) : Nat → Option Ob := fun i => match i with
  | 0 => some (.fam x.F)
  | 1 => some (.cells (.lit p.l) 29)
  | 2 => some (.cells (.lit a.l) 33)
  | _ => none
theorem h5_ok (x : MX) (p : PV) (a : AV) : Go.Cln.RowsIn (h5 x p a) := by
  intro b n' w' g' t h
  unfold h5 at h
  split at h <;> first | (cases h; done) | cases h
noncomputable def s5 (x : MX) (p : PV) (a : AV) (i : Nat) (v : VF) : St := ⟨tm5 v p a i, [], Tr.rebuild (h5 x p a) 3, 3, 1, [], fun _ => false, True, []⟩
noncomputable def go5 (K : Given) (c : Code) (s : St) (o : List (Option Bool)) : Option (Exit × St) := (mk Tryz.prog K 200).code 5 none c { s with obl := True, orc := o }
noncomputable def gd5 (K : Given) (s : St) (o : List (Option Bool)) : Option (St × Code) := down (mk Tryz.prog K 200) 5 none [2, 3, 2, 0] b5 { s with obl := True, orc := o }
def WD5 (i : Nat) : Bool := Nat.beq i 4
noncomputable def VD5 (v : VF) : VF := fun i => match WD5 i with
  | true => junk
  | false => v i
def BD5 (i : Nat) : Bool := ((Nat.ble 0 i && Nat.ble i 3) || Nat.beq i 5) || WD5 i
theorem VD5_dead {v : VF} (h : ∀ i, DeadV (v i)) (i : Nat) : DeadV (VD5 v i) := by
  unfold VD5
  split
  · exact DeadV.junk
  · exact h i
theorem lvD5 (i : Nat) (h : ((Nat.ble 0 i && Nat.ble i 3) || Nat.beq i 5) = true) : BD5 i = true := by
  unfold BD5
  simp only [Bool.or_eq_true] at h ⊢
  exact .inl h
def WR5 (i : Nat) : Bool := (Nat.ble 6 i && Nat.ble i 20)
noncomputable def VR5 (v : VF) : VF := fun i => match WR5 i with
  | true => junk
  | false => v i
def BR5 (i : Nat) : Bool := ((Nat.ble 0 i && Nat.ble i 3) || Nat.beq i 5) || WR5 i
theorem VR5_dead {v : VF} (h : ∀ i, DeadV (v i)) (i : Nat) : DeadV (VR5 v i) := by
  unfold VR5
  split
  · exact DeadV.junk
  · exact h i
theorem lvR5 (i : Nat) (h : ((Nat.ble 0 i && Nat.ble i 3) || Nat.beq i 5) = true) : BR5 i = true := by
  unfold BR5
  simp only [Bool.or_eq_true] at h ⊢
  exact .inl h
def WX5 (i : Nat) : Bool := (Nat.ble 6 i && Nat.ble i 10)
noncomputable def VX5 (v : VF) : VF := fun i => match WX5 i with
  | true => junk
  | false => v i
def BX5 (i : Nat) : Bool := ((Nat.ble 0 i && Nat.ble i 3) || Nat.beq i 5) || WX5 i
theorem VX5_dead {v : VF} (h : ∀ i, DeadV (v i)) (i : Nat) : DeadV (VX5 v i) := by
  unfold VX5
  split
  · exact DeadV.junk
  · exact h i
theorem lvX5 (i : Nat) (h : ((Nat.ble 0 i && Nat.ble i 3) || Nat.beq i 5) = true) : BX5 i = true := by
  unfold BX5
  simp only [Bool.or_eq_true] at h ⊢
  exact .inl h
def pD_5 (x : MX) (p : PV) (a : AV) (i : Nat) : Prop := True
def pR_5 (x : MX) (p : PV) (a : AV) (i : Nat) : Prop := (((((True ∧ decide (nI i < nI a.n) = true) ∧ 0 ≤ nI i ∧ nI i < nI a.n) ∧ (0 + i * 2 + 1) % 2 = 1 ∧ (0 + i * 2 + 1) / 2 < x.LN a.P) ∧ decide (nI (x.LM a.P (ix3 i)) > 60) = false) ∧ IntKind.i64.wrap (nI i + 1) = nI i + 1)
def pX_5 (x : MX) (p : PV) (a : AV) (i : Nat) : Prop := (True ∧ decide (nI i < nI a.n) = false)
def pF0_5 (x : MX) (p : PV) (a : AV) (i : Nat) : Prop := ((((True ∧ decide (nI i < nI a.n) = true) ∧ 0 ≤ nI i ∧ nI i < nI a.n) ∧ (0 + i * 2 + 1) % 2 = 1 ∧ (0 + i * 2 + 1) / 2 < x.LN a.P) ∧ decide (nI (x.LM a.P (ix3 i)) > 60) = true)
def pE0_5 (x : MX) (p : PV) (a : AV) (i : Nat) : Prop := ((True ∧ (decide (nI p.n ≤ 60)) = true) ∧ (decide (nI a.n ≤ 20)) = true)
def pE1_5 (x : MX) (p : PV) (a : AV) (i : Nat) : Prop := (True ∧ (decide (nI p.n ≤ 60)) = false)
def pE2_5 (x : MX) (p : PV) (a : AV) (i : Nat) : Prop := ((True ∧ (decide (nI p.n ≤ 60)) = true) ∧ (decide (nI a.n ≤ 20)) = false)
theorem kD5 (x : MX) (p : PV) (a : AV) : (gd5 KN (z5 x p a) []).map (fun r => (r.2, r.1.obl, seenInT BD5 r.1 (s5 x p a 0 (VD5 vU)) [0, 1, 2])) = some (.loop l5, pD_5 x p a 0, seenAsT BD5 (s5 x p a 0 (VD5 vU)) [0, 1, 2] 3) := by kernel_rfl
theorem kR5 (x : MX) (p : PV) (a : AV) (i : Nat) (v : VF) : (go5 KN l5 (s5 x p a i v) [some true, some true, some false, none, some true, some false, some true]).map (fun r => (r.1, r.2.obl, seenInT BR5 r.2 (s5 x p a (i + 1) (VR5 v)) [0, 1, 2])) = some (.normal, pR_5 x p a i, seenAsT BR5 (s5 x p a (i + 1) (VR5 v)) [0, 1, 2] 3) := by kernel_rfl
theorem kX5 (x : MX) (p : PV) (a : AV) (i : Nat) (v : VF) : (go5 KN l5 (s5 x p a i v) [some false]).map (fun r => (r.1, r.2.obl, seenInT BX5 r.2 (s5 x p a i (VX5 v)) [0, 1, 2])) = some (.exit 0, pX_5 x p a i, seenAsT BX5 (s5 x p a i (VX5 v)) [0, 1, 2] 3) := by kernel_rfl
theorem kF0_5 (x : MX) (p : PV) (a : AV) (i : Nat) (v : VF) : (go5 KN l5 (s5 x p a i v) [some true, some true, some false, none, some true, some true]).bind (fun r => (results1 Tryz.prog r.2 [.tmp 4]).map fun q => (r.1, q.2.obl, r.2.defers, oneOf q.1)) = some (.ret, pF0_5 x p a i, [], .bool false) := by kernel_rfl
theorem kE0_5 (x : MX) (p : PV) (a : AV) (i : Nat) (v : VF) : (go5 KN e5 (s5 x p a i v) [some true, none, none, none, none, some true, none, none, none, none]).bind (fun r => (results1 Tryz.prog r.2 [.tmp 4]).map fun q => (r.1, q.2.obl, r.2.defers, oneOf q.1)) = some (.ret, pE0_5 x p a i, [], .bool (decide (nI a.k ≤ 60))) := by kernel_rfl
theorem kE1_5 (x : MX) (p : PV) (a : AV) (i : Nat) (v : VF) : (go5 KN e5 (s5 x p a i v) [some false, none, none, none, none, none, none, none, none, none]).bind (fun r => (results1 Tryz.prog r.2 [.tmp 4]).map fun q => (r.1, q.2.obl, r.2.defers, oneOf q.1)) = some (.ret, pE1_5 x p a i, [], .bool false) := by kernel_rfl
theorem kE2_5 (x : MX) (p : PV) (a : AV) (i : Nat) (v : VF) : (go5 KN e5 (s5 x p a i v) [some true, none, none, none, none, some false, none, none, none, none]).bind (fun r => (results1 Tryz.prog r.2 [.tmp 4]).map fun q => (r.1, q.2.obl, r.2.defers, oneOf q.1)) = some (.ret, pE2_5 x p a i, [], .bool false) := by kernel_rfl
theorem okD5 (x : MX) (p : PV) (a : AV) (i : Nat) (v : VF) : picOkT BD5 (z5 x p a) (s5 x p a i (VD5 v)) [0, 1, 2] = true := by kernel_rfl
theorem okR5 (x : MX) (p : PV) (a : AV) (i : Nat) (v : VF) : picOkT BR5 (z5 x p a) (s5 x p a i (VR5 v)) [0, 1, 2] = true := by kernel_rfl
theorem okX5 (x : MX) (p : PV) (a : AV) (i : Nat) (v : VF) : picOkT BX5 (z5 x p a) (s5 x p a i (VX5 v)) [0, 1, 2] = true := by kernel_rfl
theorem up5 (x : MX) (p : PV) (a : AV) (Q_ : Exit → St → Prop) : upQ Tryz.prog none (z5 x p a) [2, 3, 2, 0] b5 Q_ = fun e s => (fun e s => (e = .normal ∧ StepG Tryz.prog none (z5 x p a) e5 s Q_) ∨ (e ≠ .normal ∧ Q_ e s)) (blockOut 0 e) s := by kernel_rfl
end
end ob
end Go.Proofs.YthpoeegoankpoaaGreat
