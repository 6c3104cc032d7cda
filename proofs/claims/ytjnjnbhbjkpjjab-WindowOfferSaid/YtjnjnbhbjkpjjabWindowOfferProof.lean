/-
  For all numbers, the law pursuivantlaw13.WindowOffer returns true and leaves its arguments as they were: the room that is told is all that is left, or nothing. Without any condition. By the clean reading, nine ways.
-/
import Derived.Test.YtjnjnbhbjkpjjabRows
import Derived.Test.YtjnjnbhbjkpjjabClnP26
import Derived.Test.YtjnjnbhbjkpjjabShut
import Derived.WalkKit
import Derived.ProofKit
import Derived.ShutString
import Derived.ChangeOld
import Derived.Below
import Derived.IntWalk
namespace Go.Proofs.Ytjnjnbhbjkpjjab
namespace windowOffer
open Go.ChangeShapes Go.WideShapes Go.ChangeAt Go.RowKit
open Go.ChangeMaps (open_string shut_string)
set_option linter.unusedVariables false

theorem own : ownKnob Try.prog.godebug = none := by kernel_rfl
theorem laidOut : laidOutB Try.prog = true := by kernel_rfl

set_option linter.unusedSimpArgs false
set_option maxRecDepth 100000
theorem runs1 (a b : Int) : ((Go.Cln.mk Try.prog (Go.Cln.Given.one 8 (.bool true)) 200).call 5 [.int .i64 a, .int .i64 b] (Go.Cln.St.start 0 .leaf [some true, none, none, none, none, none, none, none, none, none, some true])).map (fun r => (r.1, r.2.obl)) = some (.bool true, ((True ∧ decide (a < 0) = true) ∧ decide (a < 0) = true)) := by kernel_rfl
theorem runs2 (a b : Int) : ((Go.Cln.mk Try.prog (Go.Cln.Given.one 8 (.bool true)) 200).call 5 [.int .i64 a, .int .i64 b] (Go.Cln.St.start 0 .leaf [some false, none, some true, none, none, none, none, none, none, some false, none, some false, none, some true])).map (fun r => (r.1, r.2.obl)) = some (.bool true, (((((True ∧ decide (a < 0) = false) ∧ decide (b < 0) = true) ∧ decide (a < 0) = false) ∧ decide (65535 < a) = false) ∧ decide (b < 0) = true)) := by kernel_rfl
theorem runs3 (a b : Int) : ((Go.Cln.mk Try.prog (Go.Cln.Given.one 8 (.bool true)) 200).call 5 [.int .i64 a, .int .i64 b] (Go.Cln.St.start 0 .leaf [some false, none, some false, none, some true, none, none, none, some false, none, some true])).map (fun r => (r.1, r.2.obl)) = some (.bool true, (((((True ∧ decide (a < 0) = false) ∧ decide (b < 0) = false) ∧ decide (65535 < a) = true) ∧ decide (a < 0) = false) ∧ decide (65535 < a) = true)) := by kernel_rfl
theorem runs4 (a b : Int) : ((Go.Cln.mk Try.prog (Go.Cln.Given.one 8 (.bool true)) 200).call 5 [.int .i64 a, .int .i64 b] (Go.Cln.St.start 0 .leaf [some false, none, some false, none, some false, none, some true, some false, none, some false, none, some false, none, none, some true])).map (fun r => (r.1, r.2.obl)) = some (.bool true, ((((((((True ∧ decide (a < 0) = false) ∧ decide (b < 0) = false) ∧ decide (65535 < a) = false) ∧ decide ((IntKind.i64.wrap (a - b)) < 0) = true) ∧ decide (a < 0) = false) ∧ decide (65535 < a) = false) ∧ decide (b < 0) = false) ∧ decide (a < b) = true)) := by kernel_rfl
theorem runs5 (a b : Int) : ((Go.Cln.mk Try.prog (Go.Cln.Given.one 8 (.bool true)) 200).call 5 [.int .i64 a, .int .i64 b] (Go.Cln.St.start 0 .leaf [some false, none, some false, none, some false, none, some false, some true, none, none, none, some true, some false, none, some false, none, some false, none, none, some false, some true, none, none, none, none, some true])).map (fun r => (r.1, r.2.obl)) = some (.bool true, ((((((((((((True ∧ decide (a < 0) = false) ∧ decide (b < 0) = false) ∧ decide (65535 < a) = false) ∧ decide ((IntKind.i64.wrap (a - b)) < 0) = false) ∧ decide ((IntKind.i64.wrap (a - b)) < 64) = true) ∧ decide ((IntKind.i64.wrap (2 * IntKind.i64.wrap (a - b))) < a) = true) ∧ decide (a < 0) = false) ∧ decide (65535 < a) = false) ∧ decide (b < 0) = false) ∧ decide (a < b) = false) ∧ decide ((IntKind.i64.wrap (a - b)) < 64) = true) ∧ decide ((IntKind.i64.wrap (IntKind.i64.wrap (a - b) + IntKind.i64.wrap (a - b))) < a) = true)) := by kernel_rfl
theorem runs6 (a b : Int) : ((Go.Cln.mk Try.prog (Go.Cln.Given.one 8 (.bool true)) 200).call 5 [.int .i64 a, .int .i64 b] (Go.Cln.St.start 0 .leaf [some false, none, some false, none, some false, none, some false, some true, none, none, none, some false, some false, none, some false, none, some false, none, none, some false, some true, none, none, none, none, some false, some true, none, none, none, none, none, some false, none, none, none, none, none, some true])).map (fun r => (r.1, r.2.obl)) = some (.bool true, (((((((((((((((True ∧ decide (a < 0) = false) ∧ decide (b < 0) = false) ∧ decide (65535 < a) = false) ∧ decide ((IntKind.i64.wrap (a - b)) < 0) = false) ∧ decide ((IntKind.i64.wrap (a - b)) < 64) = true) ∧ decide ((IntKind.i64.wrap (2 * IntKind.i64.wrap (a - b))) < a) = false) ∧ decide (a < 0) = false) ∧ decide (65535 < a) = false) ∧ decide (b < 0) = false) ∧ decide (a < b) = false) ∧ decide ((IntKind.i64.wrap (a - b)) < 64) = true) ∧ decide ((IntKind.i64.wrap (IntKind.i64.wrap (a - b) + IntKind.i64.wrap (a - b))) < a) = false) ∧ decide (IntKind.i64.wrap (a - b) = IntKind.i64.wrap (a - b)) = true) ∧ decide ((IntKind.i64.wrap (a - b)) = 0) = false) ∧ decide (IntKind.i64.wrap (a - b) = IntKind.i64.wrap (a - b)) = true)) := by kernel_rfl
theorem runs7 (a b : Int) : ((Go.Cln.mk Try.prog (Go.Cln.Given.one 8 (.bool true)) 200).call 5 [.int .i64 a, .int .i64 b] (Go.Cln.St.start 0 .leaf [some false, none, some false, none, some false, none, some false, some true, none, none, none, some false, some false, none, some false, none, some false, none, none, some false, some true, none, none, none, none, some false, some true, none, none, none, none, none, some true])).map (fun r => (r.1, r.2.obl)) = some (.bool true, ((((((((((((((True ∧ decide (a < 0) = false) ∧ decide (b < 0) = false) ∧ decide (65535 < a) = false) ∧ decide ((IntKind.i64.wrap (a - b)) < 0) = false) ∧ decide ((IntKind.i64.wrap (a - b)) < 64) = true) ∧ decide ((IntKind.i64.wrap (2 * IntKind.i64.wrap (a - b))) < a) = false) ∧ decide (a < 0) = false) ∧ decide (65535 < a) = false) ∧ decide (b < 0) = false) ∧ decide (a < b) = false) ∧ decide ((IntKind.i64.wrap (a - b)) < 64) = true) ∧ decide ((IntKind.i64.wrap (IntKind.i64.wrap (a - b) + IntKind.i64.wrap (a - b))) < a) = false) ∧ decide (IntKind.i64.wrap (a - b) = IntKind.i64.wrap (a - b)) = true) ∧ decide ((IntKind.i64.wrap (a - b)) = 0) = true)) := by kernel_rfl
theorem runs8 (a b : Int) : ((Go.Cln.mk Try.prog (Go.Cln.Given.one 8 (.bool true)) 200).call 5 [.int .i64 a, .int .i64 b] (Go.Cln.St.start 0 .leaf [some false, none, some false, none, some false, none, some false, some false, none, none, none, none, none, some false, none, some false, none, some false, none, none, some false, some false, none, none, none, none, none, none, some true, none, none, none, none, none, some false, none, none, none, none, none, some true])).map (fun r => (r.1, r.2.obl)) = some (.bool true, (((((((((((((True ∧ decide (a < 0) = false) ∧ decide (b < 0) = false) ∧ decide (65535 < a) = false) ∧ decide ((IntKind.i64.wrap (a - b)) < 0) = false) ∧ decide ((IntKind.i64.wrap (a - b)) < 64) = false) ∧ decide (a < 0) = false) ∧ decide (65535 < a) = false) ∧ decide (b < 0) = false) ∧ decide (a < b) = false) ∧ decide ((IntKind.i64.wrap (a - b)) < 64) = false) ∧ decide (IntKind.i64.wrap (a - b) = IntKind.i64.wrap (a - b)) = true) ∧ decide ((IntKind.i64.wrap (a - b)) = 0) = false) ∧ decide (IntKind.i64.wrap (a - b) = IntKind.i64.wrap (a - b)) = true)) := by kernel_rfl
theorem runs9 (a b : Int) : ((Go.Cln.mk Try.prog (Go.Cln.Given.one 8 (.bool true)) 200).call 5 [.int .i64 a, .int .i64 b] (Go.Cln.St.start 0 .leaf [some false, none, some true, none, none, none, none, none, none, some false, none, some true])).map (fun r => (r.1, r.2.obl)) = some (.bool true, ((((True ∧ decide (a < 0) = false) ∧ decide (b < 0) = true) ∧ decide (a < 0) = false) ∧ decide (65535 < a) = true)) := by kernel_rfl
theorem pg : Go.Cln.PG Try.prog := Go.Cln.PG.of (by decide +kernel)
theorem knownRuns : ((Go.Cln.mk Try.prog Go.Cln.Given.nothing 200).call 8 [] (Go.Cln.St.start 0 .leaf [])).map (fun r => (r.1, r.2.obl)) = some (.bool true, True) := by kernel_rfl
theorem known (W : World) : Calls Try.prog 8 #[] W fun e w' => e = .returned (.bool true) ∧ Below W.heap.size W w' := Go.Cln.ran pg (Go.Cln.GivenOk.nothing _) knownRuns trivial rfl rfl W
set_option maxHeartbeats 4000000 in
theorem walk (W : World) (a0 : Int) (w0 : (Lit.int .i64 a0).wf = true) (a1 : Int) (w1 : (Lit.int .i64 a1).wf = true) :
    Calls Try.prog 5 #[.int .i64 a0, .int .i64 a1] W fun e w' => e = .returned (.bool true) ∧ Below W.heap.size W w' := by
  obtain ⟨b0, b1⟩ := i64_in w0
  obtain ⟨b2, b3⟩ := i64_in w1
  have K := Go.Cln.GivenOk.one (P := Try.prog) (f := 8) (v := .bool true) rfl known
  clear w0 w1
  have cases8 : a0 < 0 ∨ (0 ≤ a0 ∧ a0 ≤ 65535 ∧ a1 < 0) ∨ (0 ≤ a1 ∧ 65535 < a0) ∨ (0 ≤ a0 ∧ a0 ≤ 65535 ∧ a0 < a1) ∨ (a0 ≤ 65535 ∧ 0 ≤ a1 ∧ a1 ≤ a0 ∧ a0 - a1 < 64 ∧ 2 * (a0 - a1) < a0) ∨ (0 ≤ a0 ∧ a0 ≤ 65535 ∧ 0 ≤ a1 ∧ a1 < a0 ∧ a0 - a1 < 64 ∧ a0 ≤ 2 * (a0 - a1)) ∨ (a0 = 0 ∧ a1 = 0) ∨ (a0 ≤ 65535 ∧ 0 ≤ a1 ∧ 64 ≤ a0 - a1) ∨ (65535 < a0 ∧ a1 < 0) := by omega
  rcases cases8 with h | h | h | h | h | h | h | h | h
  · refine Go.Cln.ran pg K (runs1 a0 a1) ?_ rfl rfl W
    repeat' apply And.intro
    all_goals first | trivial | (simp only [decide_eq_true_eq, decide_eq_false_iff_not, IntKind.wrap_i64]; done) | (simp only [decide_eq_true_eq, decide_eq_false_iff_not, IntKind.wrap_i64]; omega)
  · refine Go.Cln.ran pg K (runs2 a0 a1) ?_ rfl rfl W
    repeat' apply And.intro
    all_goals first | trivial | (simp only [decide_eq_true_eq, decide_eq_false_iff_not, IntKind.wrap_i64]; done) | (simp only [decide_eq_true_eq, decide_eq_false_iff_not, IntKind.wrap_i64]; omega)
  · refine Go.Cln.ran pg K (runs3 a0 a1) ?_ rfl rfl W
    repeat' apply And.intro
    all_goals first | trivial | (simp only [decide_eq_true_eq, decide_eq_false_iff_not, IntKind.wrap_i64]; done) | (simp only [decide_eq_true_eq, decide_eq_false_iff_not, IntKind.wrap_i64]; omega)
  · refine Go.Cln.ran pg K (runs4 a0 a1) ?_ rfl rfl W
    repeat' apply And.intro
    all_goals first | trivial | (simp only [decide_eq_true_eq, decide_eq_false_iff_not, IntKind.wrap_i64]; done) | (simp only [decide_eq_true_eq, decide_eq_false_iff_not, IntKind.wrap_i64]; omega)
  · refine Go.Cln.ran pg K (runs5 a0 a1) ?_ rfl rfl W
    repeat' apply And.intro
    all_goals first | trivial | (simp only [decide_eq_true_eq, decide_eq_false_iff_not, IntKind.wrap_i64]; done) | (simp only [decide_eq_true_eq, decide_eq_false_iff_not, IntKind.wrap_i64]; omega)
  · refine Go.Cln.ran pg K (runs6 a0 a1) ?_ rfl rfl W
    repeat' apply And.intro
    all_goals first | trivial | (simp only [decide_eq_true_eq, decide_eq_false_iff_not, IntKind.wrap_i64]; done) | (simp only [decide_eq_true_eq, decide_eq_false_iff_not, IntKind.wrap_i64]; omega)
  · refine Go.Cln.ran pg K (runs7 a0 a1) ?_ rfl rfl W
    repeat' apply And.intro
    all_goals first | trivial | (simp only [decide_eq_true_eq, decide_eq_false_iff_not, IntKind.wrap_i64]; done) | (simp only [decide_eq_true_eq, decide_eq_false_iff_not, IntKind.wrap_i64]; omega)
  · refine Go.Cln.ran pg K (runs8 a0 a1) ?_ rfl rfl W
    repeat' apply And.intro
    all_goals first | trivial | (simp only [decide_eq_true_eq, decide_eq_false_iff_not, IntKind.wrap_i64]; done) | (simp only [decide_eq_true_eq, decide_eq_false_iff_not, IntKind.wrap_i64]; omega)
  · refine Go.Cln.ran pg K (runs9 a0 a1) ?_ rfl rfl W
    repeat' apply And.intro
    all_goals first | trivial | (simp only [decide_eq_true_eq, decide_eq_false_iff_not, IntKind.wrap_i64]; done) | (simp only [decide_eq_true_eq, decide_eq_false_iff_not, IntKind.wrap_i64]; omega)

set_option maxRecDepth 100000 in
theorem lifted (os : Os) (started : os.Started) (H : Type) (enc : TypeId × Value → H) :
    ReturnsInHanded {} Try.checked os 5 .any (Rows.windowOfferSpec.pre6 enc Try.prog Try.f5 Rows.windowOfferRow.domain false) (Rows.windowOfferSpec.post enc Try.prog Try.f5 false true false false) := by
  refine returnsInHanded_of_change (C := Try.checked) own started (by kernel_rfl) Try.func5
    (ChangeSpec.witness6 (enc := enc) (C := Try.checked) false ⟨#[], #[.int .i64 0, .int .i64 0], []⟩ 8 (by kernel_rfl) (by kernel_rfl) (by kernel_rfl) (by kernel_rfl)) ?_
  intro W base args ds gs before hval0 hW hcnd _
  have hval : ∀ (j : Nat) t v, Try.f5.params[j]? = some t → args[j]? = some v → Value.okWide Try.prog W .any base t v := hval0
  have hW' := hW
  obtain ⟨p, q, hA0, hV, rfl, hfz, hnd⟩ := hW
  have hA : DataW.TrodAll enc Try.prog W 0 (fun _ => true) true Try.f5.params.toList args.toList ds p := hA0
  rw [Try.params5] at hA hval
  obtain ⟨v0, vs0, d0, ds0, p0, q0, hargs, rfl, rfl, h0, r0⟩ := trodAll_cons hA
  obtain ⟨v1, vs1, d1, ds1, p1, q1, rfl, rfl, rfl, h1, r1⟩ := trodAll_cons r0
  obtain ⟨rfl, rfl, rfl⟩ := trodAll_nil r1
  obtain rfl : args = #[v0, v1] := by cases args; simp_all
  obtain ⟨rfl, rfl⟩ := trodVars_none hV
  have k0 := h0
  have lt0 : ∀ x ∈ p0, x.block < W.heap.size := by obtain ⟨m, hm⟩ := k0; exact DataW.trod_lt m _ _ _ hm
  have k1 := h1
  have lt1 : ∀ x ∈ p1, x.block < W.heap.size := by obtain ⟨m, hm⟩ := k1; exact DataW.trod_lt m _ _ _ hm
  obtain ⟨a0, rfl, rfl, rfl, w0⟩ := open_int Try.underlying3 (hval 0 3 v0 rfl rfl) h0
  obtain ⟨a1, rfl, rfl, rfl, w1⟩ := open_int Try.underlying3 (hval 1 3 v1 rfl rfl) h1
  clear hA0 hval0
  refine (walk W a0 w0 a1 w1).mono fun e W' ⟨he, bel⟩ => ?_
  subst he
  exact ⟨_, rfl, _, _, _, [], _, [], hW', trodAll_mk1 (shut_bool Try.underlying4 _), (trodAll_cons_mk (Below.trod laidOut (by kernel_rfl) (of_decide_eq_true (by kernel_rfl)) k0 bel lt0) (trodAll_cons_mk (Below.trod laidOut (by kernel_rfl) (of_decide_eq_true (by kernel_rfl)) k1 bel lt1) trodAll_mk0)), rfl, bel.frame _, fun h => by cases h⟩

theorem over : Rows.windowOfferRow.holds Try.pinned (OpenSpec.ofChange Rows.windowOfferSpec) :=
  OpenClaim.holds_of_wide 5 Try.f5 rfl rfl rfl rfl rfl rfl rfl ⟨rfl, rfl, rfl, rfl, rfl⟩ rfl rfl rfl rfl rfl (by kernel_rfl) Try.func5 (by kernel_rfl)
    (of_decide_eq_true (by kernel_rfl)) (by unfold Func.isWrapper; first | (rw [if_pos (by decide +kernel)]; kernel_rfl) | (rw [if_neg (by decide +kernel)]; exact ⟨rfl, rfl⟩))
    (fun os started H enc _ => lifted os started H enc)

end windowOffer
theorem windowOffer_holds : Rows.WindowOfferSaid := windowOffer.over
end Go.Proofs.Ytjnjnbhbjkpjjab
