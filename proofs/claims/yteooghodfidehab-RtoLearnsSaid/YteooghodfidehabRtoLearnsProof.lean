/-
  For all bounds, every sample and all samples ahead, the law pursuivantlaw14.RtoLearns returns true and leaves its arguments as they were: where all samples are the same, the wait comes near that. Without any condition.
-/
import Derived.Test.YteooghodfidehabRows
import Derived.Test.YteooghodfidehabLearns
import Derived.Test.YteooghodfidehabLearnsNil
import Derived.Test.YteooghodfidehabOpen
import Derived.WalkKit
import Derived.ProofKit
import Derived.ShutString
import Derived.ChangeOld
import Derived.Below
namespace Go.Proofs.Yteooghodfidehab
namespace rtoLearns
open Go.ChangeShapes Go.WideShapes Go.ChangeAt Go.RowKit
open Go.ChangeMaps (open_string shut_string)
set_option linter.unusedVariables false

theorem own : ownKnob Try.prog.godebug = none := by kernel_rfl
theorem laidOut : laidOutB Try.prog = true := by kernel_rfl

set_option maxRecDepth 100000 in
theorem early (f l m t now : Int) (x : Option Addr) (n c : Nat) (w : World) (hm : n ≤ 9223372036854775807) (h : now < 0 ∨ 2000 < now ∨ 10 < n) :
    Calls Try.prog 5 #[.agg #[.int .i64 f, .int .i64 l, .int .i64 m, .int .i64 t], .int .i64 now, .slice x n c] w fun e w' => e = .returned (.bool true) ∧ Below w.heap.size w w' := by
  have y0 : Below w.heap.size w (w.alloc (.cells #[.int .i64 f, .int .i64 l, .int .i64 m, .int .i64 t] 23)) := (Below.refl _ _).alloc (Nat.le_refl _) _
  by_cases h1 : now < 0
  · clear h
    go_enter Try.func5, Try.ntmps5
    go_wp2_with fail
    (with_reducible refine (known_any _).mono ?_); rintro e w1 ⟨rfl, b1⟩
    go_wp2_with fail
    go_ret
    exact ⟨rfl, y0.trans (b1.mono y0.size)⟩
  by_cases h2 : 2000 < now
  · clear h
    go_enter Try.func5, Try.ntmps5
    go_wp2_with fail
    (with_reducible refine (known_any _).mono ?_); rintro e w1 ⟨rfl, b1⟩
    go_wp2_with fail
    go_ret
    exact ⟨rfl, y0.trans (b1.mono y0.size)⟩
  have k3 : (10 : Int) < (n : Int) := by omega
  clear h
  go_enter Try.func5, Try.ntmps5
  go_wp2_with fail
  (with_reducible refine (known_any _).mono ?_); rintro e w1 ⟨rfl, b1⟩
  go_wp2_with fail
  go_ret
  exact ⟨rfl, y0.trans (b1.mono y0.size)⟩

set_option maxRecDepth 100000 in
theorem unmade (f l m t now : Int) (x : Option Addr) (n c : Nat) (w : World) (hn : n ≤ 10) (h0 : 0 ≤ now) (h1 : now ≤ 2000) (hb : ¬ Bd f l m t) :
    Calls Try.prog 5 #[.agg #[.int .i64 f, .int .i64 l, .int .i64 m, .int .i64 t], .int .i64 now, .slice x n c] w fun e w' => e = .returned (.bool true) ∧ Below w.heap.size w w' := by
  have y0 : Below w.heap.size w (w.alloc (.cells #[.int .i64 f, .int .i64 l, .int .i64 m, .int .i64 t] 23)) := (Below.refl _ _).alloc (Nat.le_refl _) _
  have k1 : ¬ (10 : Int) < (n : Int) := by omega
  have k2 : ¬ now < 0 := by omega
  have k3 : ¬ 2000 < now := by omega
  have HB := Lib.hid hb; clear hb
  go_enter Try.func5, Try.ntmps5
  go_wp2_with fail
  (with_reducible refine (new_no _ _ _ _ _ HB.out).mono ?_); rintro e w1 ⟨rfl, b1⟩
  have y1 := y0.trans (b1.mono y0.size)
  go_wp2_with fail
  (with_reducible refine (known_any _).mono ?_); rintro e w2 ⟨rfl, b2⟩
  go_wp2_with fail
  go_ret
  exact ⟨rfl, y1.trans (b2.mono y1.size)⟩

theorem walk (W : World) (a0 b0 c0 e0 : Int) (a1 : Int) (w1 : (Lit.int .i64 a1).wf = true) (a2 : Option Addr) (n2 c2 : Nat) (u2 : n2 ≤ c2) (x2 : c2 ≤ maxLen)
    (z2 : n2 = 0 ∨ ∃ (b o : Nat) (f : Nat → Int), a2 = some ⟨b, o, none⟩ ∧ b < W.heap.size ∧ ∀ i, i < n2 → W.cell? ⟨b, o + i, none⟩ = some (.int .i64 (f i)) ∧ (Lit.int .i64 (f i)).wf = true) :
    Calls Try.prog 5 #[.agg #[.int .i64 a0, .int .i64 b0, .int .i64 c0, .int .i64 e0], .int .i64 a1, .slice a2 n2 c2] W fun e w' => e = .returned (.bool true) ∧ Below W.heap.size W w' := by
  unfold maxLen at x2
  by_cases h : a1 < 0 ∨ 2000 < a1 ∨ 10 < n2
  · exact early a0 b0 c0 e0 a1 a2 n2 c2 W (by omega) h
  · by_cases hb : Bd a0 b0 c0 e0
    · by_cases h0 : n2 = 0
      · subst h0
        exact learns_nil a0 b0 c0 e0 a1 a2 c2 W hb (by omega) (by omega)
      · rcases z2 with h1 | ⟨b, o, f, rfl, hlt, hf⟩
        · exact absurd h1 h0
        · exact learns_row a0 b0 c0 e0 a1 b o n2 c2 f W hb (by omega) (by omega) (by omega) hlt (fun i hi => (hf i hi).1)
    · exact unmade a0 b0 c0 e0 a1 a2 n2 c2 W (by omega) (by omega) (by omega) hb

set_option maxRecDepth 100000 in
theorem lifted (os : Os) (started : os.Started) (H : Type) (enc : TypeId × Value → H) :
    ReturnsInHanded {} Try.checked os 5 .any (Rows.rtoLearnsSpec.pre6 enc Try.prog Try.f5 Rows.rtoLearnsRow.domain false) (Rows.rtoLearnsSpec.post enc Try.prog Try.f5 false true false false) := by
  refine returnsInHanded_of_change (C := Try.checked) own started (by kernel_rfl) Try.func5
    (ChangeSpec.witness6 (enc := enc) (C := Try.checked) false ⟨#[], #[.agg #[.int .i64 0, .int .i64 0, .int .i64 0, .int .i64 0], .int .i64 0, .slice none 0 0], []⟩ 8 (by kernel_rfl) (by kernel_rfl) (by kernel_rfl) (by kernel_rfl)) ?_
  intro W base args ds gs before hval0 hW hcnd _
  have hval : ∀ (j : Nat) t v, Try.f5.params[j]? = some t → args[j]? = some v → Value.okWide Try.prog W .any base t v := hval0
  have hW' := hW
  obtain ⟨p, q, hA0, hV, rfl, hfz, hnd⟩ := hW
  have hA : DataW.TrodAll enc Try.prog W 0 (fun _ => true) true Try.f5.params.toList args.toList ds p := hA0
  rw [Try.params5] at hA hval
  obtain ⟨v0, vs0, d0, ds0, p0, q0, hargs, rfl, rfl, h0, r0⟩ := trodAll_cons hA
  obtain ⟨v1, vs1, d1, ds1, p1, q1, rfl, rfl, rfl, h1, r1⟩ := trodAll_cons r0
  obtain ⟨v2, vs2, d2, ds2, p2, q2, rfl, rfl, rfl, h2, r2⟩ := trodAll_cons r1
  obtain ⟨rfl, rfl, rfl⟩ := trodAll_nil r2
  obtain rfl : args = #[v0, v1, v2] := by cases args; simp_all
  obtain ⟨rfl, rfl⟩ := trodVars_none hV
  have k0 := h0
  have lt0 : ∀ x ∈ p0, x.block < W.heap.size := by obtain ⟨m, hm⟩ := k0; exact DataW.trod_lt m _ _ _ hm
  have k1 := h1
  have lt1 : ∀ x ∈ p1, x.block < W.heap.size := by obtain ⟨m, hm⟩ := k1; exact DataW.trod_lt m _ _ _ hm
  have k2 := h2
  have lt2 : ∀ x ∈ p2, x.block < W.heap.size := by obtain ⟨m, hm⟩ := k2; exact DataW.trod_lt m _ _ _ hm
  obtain ⟨a0, b0, c0, e0, rfl⟩ := open_ints4 Try.underlying23 (by kernel_rfl) (by kernel_rfl) Try.underlying3 Try.underlying3 Try.underlying3 Try.underlying3 (hval 0 23 v0 rfl rfl) h0
  obtain ⟨a1, rfl, rfl, rfl, w1⟩ := open_int Try.underlying3 (hval 1 3 v1 rfl rfl) h1
  obtain ⟨a2, n2, c2, rfl, u2, x2, z2⟩ := open_irow Try.underlying41 Try.underlying3 (by kernel_rfl) (hval 2 41 v2 rfl rfl) h2
  clear hA0 hval0
  refine (walk W a0 b0 c0 e0 a1 w1 a2 n2 c2 u2 x2 z2).mono fun e W' ⟨he, bel⟩ => ?_
  subst he
  exact ⟨_, rfl, _, _, _, [], _, [], hW', trodAll_mk1 (shut_bool Try.underlying4 _), (trodAll_cons_mk (Below.trod laidOut (by kernel_rfl) (of_decide_eq_true (by kernel_rfl)) k0 bel lt0) (trodAll_cons_mk (Below.trod laidOut (by kernel_rfl) (of_decide_eq_true (by kernel_rfl)) k1 bel lt1) (trodAll_cons_mk (Below.trod laidOut (by kernel_rfl) (of_decide_eq_true (by kernel_rfl)) k2 bel lt2) trodAll_mk0))), rfl, bel.frame _, fun h => by cases h⟩

theorem over : Rows.rtoLearnsRow.holds Try.pinned (OpenSpec.ofChange Rows.rtoLearnsSpec) :=
  OpenClaim.holds_of_wide 5 Try.f5 rfl rfl rfl rfl rfl rfl rfl ⟨rfl, rfl, rfl, rfl, rfl⟩ rfl rfl rfl rfl rfl (by kernel_rfl) Try.func5 (by kernel_rfl)
    (of_decide_eq_true (by kernel_rfl)) (by unfold Func.isWrapper; first | (rw [if_pos (by decide +kernel)]; kernel_rfl) | (rw [if_neg (by decide +kernel)]; exact ⟨rfl, rfl⟩))
    (fun os started H enc _ => lifted os started H enc)

end rtoLearns
theorem rtoLearns_holds : Rows.RtoLearnsSaid := rtoLearns.over
end Go.Proofs.Yteooghodfidehab
