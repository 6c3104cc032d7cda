/-
  For all bounds, all samples and every number, the law pursuivantlaw14.RtoGives returns true and leaves its arguments as they were: whoever is late each time gives up behind Tries times, and within Most ticks each. Without any condition.
-/
import Derived.Test.YteooghodfidehabRows
import Derived.Test.YteooghodfidehabGives
import Derived.Test.YteooghodfidehabOpen
import Derived.WalkKit
import Derived.ProofKit
import Derived.ShutString
import Derived.ChangeOld
import Derived.Below
namespace Go.Proofs.Yteooghodfidehab
namespace rtoGives
open Go.ChangeShapes Go.WideShapes Go.ChangeAt Go.RowKit
open Go.ChangeMaps (open_string shut_string)
set_option linter.unusedVariables false

theorem own : ownKnob Try.prog.godebug = none := by kernel_rfl
theorem laidOut : laidOutB Try.prog = true := by kernel_rfl

set_option maxRecDepth 100000 in
theorem early (f l m t now : Int) (x : Option Addr) (n c : Nat) (w : World) (hm : n ≤ 9223372036854775807) (h : 20 < n ∨ now < 0 ∨ 1073741824 < now) :
    Calls Try.prog 4 #[.agg #[.int .i64 f, .int .i64 l, .int .i64 m, .int .i64 t], .slice x n c, .int .i64 now] w fun e w' => e = .returned (.bool true) ∧ Below w.heap.size w w' := by
  have y0 : Below w.heap.size w (w.alloc (.cells #[.int .i64 f, .int .i64 l, .int .i64 m, .int .i64 t] 23)) := (Below.refl _ _).alloc (Nat.le_refl _) _
  by_cases h1 : 20 < n
  · have k1 : (20 : Int) < (n : Int) := by omega
    clear h h1
    go_enter Try.func4, Try.ntmps4
    go_wp2_with fail
    (with_reducible refine (known_any _).mono ?_); rintro e w1 ⟨rfl, b1⟩
    go_wp2_with fail
    go_ret
    exact ⟨rfl, y0.trans (b1.mono y0.size)⟩
  have k1 : ¬ (20 : Int) < (n : Int) := by omega
  by_cases h2 : now < 0
  · clear h h1
    go_enter Try.func4, Try.ntmps4
    go_wp2_with fail
    (with_reducible refine (known_any _).mono ?_); rintro e w1 ⟨rfl, b1⟩
    go_wp2_with fail
    go_ret
    exact ⟨rfl, y0.trans (b1.mono y0.size)⟩
  have k2 : 1073741824 < now := by omega
  clear h h1
  go_enter Try.func4, Try.ntmps4
  go_wp2_with fail
  (with_reducible refine (known_any _).mono ?_); rintro e w1 ⟨rfl, b1⟩
  go_wp2_with fail
  go_ret
  exact ⟨rfl, y0.trans (b1.mono y0.size)⟩

set_option maxRecDepth 100000 in
theorem unmade (f l m t now : Int) (x : Option Addr) (n c : Nat) (w : World) (hn : n ≤ 20) (h0 : 0 ≤ now) (h1 : now ≤ 1073741824) (hb : ¬ Bd f l m t) :
    Calls Try.prog 4 #[.agg #[.int .i64 f, .int .i64 l, .int .i64 m, .int .i64 t], .slice x n c, .int .i64 now] w fun e w' => e = .returned (.bool true) ∧ Below w.heap.size w w' := by
  have y0 : Below w.heap.size w (w.alloc (.cells #[.int .i64 f, .int .i64 l, .int .i64 m, .int .i64 t] 23)) := (Below.refl _ _).alloc (Nat.le_refl _) _
  have k1 : ¬ (20 : Int) < (n : Int) := by omega
  have k2 : ¬ now < 0 := by omega
  have k3 : ¬ 1073741824 < now := by omega
  have HB := Lib.hid hb; clear hb
  go_enter Try.func4, Try.ntmps4
  go_wp2_with fail
  (with_reducible refine (new_no _ _ _ _ _ HB.out).mono ?_); rintro e w1 ⟨rfl, b1⟩
  have y1 := y0.trans (b1.mono y0.size)
  go_wp2_with fail
  (with_reducible refine (known_any _).mono ?_); rintro e w2 ⟨rfl, b2⟩
  go_wp2_with fail
  go_ret
  exact ⟨rfl, y1.trans (b2.mono y1.size)⟩

theorem walk (W : World) (a0 b0 c0 e0 : Int) (a1 : Option Addr) (n1 c1 : Nat) (u1 : n1 ≤ c1) (x1 : c1 ≤ maxLen)
    (z1 : n1 = 0 ∨ ∃ (b o : Nat) (f : Nat → Int), a1 = some ⟨b, o, none⟩ ∧ b < W.heap.size ∧ ∀ i, i < n1 → W.cell? ⟨b, o + i, none⟩ = some (.int .i64 (f i)) ∧ (Lit.int .i64 (f i)).wf = true)
    (a2 : Int) (w2 : (Lit.int .i64 a2).wf = true) :
    Calls Try.prog 4 #[.agg #[.int .i64 a0, .int .i64 b0, .int .i64 c0, .int .i64 e0], .slice a1 n1 c1, .int .i64 a2] W fun e w' => e = .returned (.bool true) ∧ Below W.heap.size W w' := by
  unfold maxLen at x1
  by_cases h : 20 < n1 ∨ a2 < 0 ∨ 1073741824 < a2
  · exact early a0 b0 c0 e0 a2 a1 n1 c1 W (by omega) h
  · by_cases hb : Bd a0 b0 c0 e0
    · by_cases h0 : n1 = 0
      · subst h0
        exact gives_nil a0 b0 c0 e0 a2 a1 c1 W hb (by omega) (by omega)
      · rcases z1 with h1 | ⟨b, o, f, rfl, hlt, hf⟩
        · exact absurd h1 h0
        · exact gives_row a0 b0 c0 e0 a2 b o n1 c1 f W hb (by omega) (by omega) (by omega) hlt (fun i hi => (hf i hi).1)
    · exact unmade a0 b0 c0 e0 a2 a1 n1 c1 W (by omega) (by omega) (by omega) hb

set_option maxRecDepth 100000 in
theorem lifted (os : Os) (started : os.Started) (H : Type) (enc : TypeId × Value → H) :
    ReturnsInHanded {} Try.checked os 4 .any (Rows.rtoGivesSpec.pre6 enc Try.prog Try.f4 Rows.rtoGivesRow.domain false) (Rows.rtoGivesSpec.post enc Try.prog Try.f4 false true false false) := by
  refine returnsInHanded_of_change (C := Try.checked) own started (by kernel_rfl) Try.func4
    (ChangeSpec.witness6 (enc := enc) (C := Try.checked) false ⟨#[], #[.agg #[.int .i64 0, .int .i64 0, .int .i64 0, .int .i64 0], .slice none 0 0, .int .i64 0], []⟩ 8 (by kernel_rfl) (by kernel_rfl) (by kernel_rfl) (by kernel_rfl)) ?_
  intro W base args ds gs before hval0 hW hcnd _
  have hval : ∀ (j : Nat) t v, Try.f4.params[j]? = some t → args[j]? = some v → Value.okWide Try.prog W .any base t v := hval0
  have hW' := hW
  obtain ⟨p, q, hA0, hV, rfl, hfz, hnd⟩ := hW
  have hA : DataW.TrodAll enc Try.prog W 0 (fun _ => true) true Try.f4.params.toList args.toList ds p := hA0
  rw [Try.params4] at hA hval
  obtain ⟨v0, vs0, d0, ds0, p0, q0, hargs, rfl, rfl, h0, r0⟩ := trodAll_cons hA
  obtain ⟨v1, vs1, d1, ds1, p1, q1, rfl, rfl, rfl, h1, r1⟩ := trodAll_cons r0
  obtain ⟨v2, vs2, d2, ds2, p2, q2, rfl, rfl, rfl, h2, r2⟩ := trodAll_cons r1
  obtain ⟨rfl, rfl, rfl⟩ := trodAll_nil r2
  obtain rfl : args = #[v0, v1, v2] := by cases args; simp_all
  obtain ⟨rfl, rfl⟩ := trodVars_none hV
  have k0 := h0
  have lt0 : ∀ x ∈ p0, x.block < W.heap.size := by obtain ⟨m, hm⟩ := k0; exact DataW.trod_lt m _ _ _ hm
  have k1 := h1
  have lt1 : ∀ x ∈ p1, x.block < W.heap.size := by obtain ⟨m, hm⟩ := k1; exact DataW.trod_lt m _ _ _ hm
  have k2 := h2
  have lt2 : ∀ x ∈ p2, x.block < W.heap.size := by obtain ⟨m, hm⟩ := k2; exact DataW.trod_lt m _ _ _ hm
  obtain ⟨a0, b0, c0, e0, rfl⟩ := open_ints4 Try.underlying23 (by kernel_rfl) (by kernel_rfl) Try.underlying3 Try.underlying3 Try.underlying3 Try.underlying3 (hval 0 23 v0 rfl rfl) h0
  obtain ⟨a1, n1, c1, rfl, u1, x1, z1⟩ := open_irow Try.underlying41 Try.underlying3 (by kernel_rfl) (hval 1 41 v1 rfl rfl) h1
  obtain ⟨a2, rfl, rfl, rfl, w2⟩ := open_int Try.underlying3 (hval 2 3 v2 rfl rfl) h2
  clear hA0 hval0
  refine (walk W a0 b0 c0 e0 a1 n1 c1 u1 x1 z1 a2 w2).mono fun e W' ⟨he, bel⟩ => ?_
  subst he
  exact ⟨_, rfl, _, _, _, [], _, [], hW', trodAll_mk1 (shut_bool Try.underlying4 _), (trodAll_cons_mk (Below.trod laidOut (by kernel_rfl) (of_decide_eq_true (by kernel_rfl)) k0 bel lt0) (trodAll_cons_mk (Below.trod laidOut (by kernel_rfl) (of_decide_eq_true (by kernel_rfl)) k1 bel lt1) (trodAll_cons_mk (Below.trod laidOut (by kernel_rfl) (of_decide_eq_true (by kernel_rfl)) k2 bel lt2) trodAll_mk0))), rfl, bel.frame _, fun h => by cases h⟩

theorem over : Rows.rtoGivesRow.holds Try.pinned (OpenSpec.ofChange Rows.rtoGivesSpec) :=
  OpenClaim.holds_of_wide 4 Try.f4 rfl rfl rfl rfl rfl rfl rfl ⟨rfl, rfl, rfl, rfl, rfl⟩ rfl rfl rfl rfl rfl (by kernel_rfl) Try.func4 (by kernel_rfl)
    (of_decide_eq_true (by kernel_rfl)) (by unfold Func.isWrapper; first | (rw [if_pos (by decide +kernel)]; kernel_rfl) | (rw [if_neg (by decide +kernel)]; exact ⟨rfl, rfl⟩))
    (fun os started H enc _ => lifted os started H enc)

end rtoGives
theorem rtoGives_holds : Rows.RtoGivesSaid := rtoGives.over
end Go.Proofs.Yteooghodfidehab
