/-
  For every Seq and every number of 64 bits, the law pursuivantlaw11.SneNear returns true and leaves its arguments as they were: the nearest long number and the extension that package sne tells are those of the document's own definition. Without any condition.
-/
import Derived.Test.YtbdkmppfigennaaRows
import Derived.Test.YtbdkmppfigennaaKnown
import Derived.WalkKit
import Derived.ProofKit
import Derived.Test.YtbdkmppfigennaaShut
namespace Go.Proofs.Ytbdkmppfigennaa
namespace sneNear
open Go.ChangeShapes Go.WideShapes Go.ChangeAt Go.RowKit
set_option linter.unusedVariables false      -- a walk need not use every 'w<i>' (that an integer argument fits its kind)

theorem own : ownKnob Try.prog.godebug = none := by kernel_rfl

theorem outer (a0 a1 : Int) (h : a1 < 0 ∨ 4611686018427387904 < a1) (w : World) :
    Calls Try.prog 3 #[.int .u32 a0, .int .i64 a1] w fun e w' => e = .returned (.bool true) ∧ Below w.heap.size w w' := by
  rcases h with h | h
  all_goals
    go_enter Try.func3, Try.ntmps3
    go_wp2_with fail
    (with_reducible refine (snear_out _ _ _ (by omega)).mono ?_); rintro e w1 ⟨rfl, rfl⟩
    go_wp2_with fail
    (with_reducible refine (ref_lo _ _ _ (by omega)).mono ?_); rintro e w1 ⟨rfl, rfl⟩
    go_wp2_with fail
    (with_reducible refine (ext_out _ _ (by omega)).mono ?_); rintro e w1 ⟨rfl, rfl⟩
    go_wp2_with fail
    (with_reducible refine (known_any _).mono ?_); rintro e w1 ⟨rfl, b1⟩
    go_wp2_with fail
    go_ret
    exact ⟨rfl, b1⟩

theorem inner (a0 a1 : Int) (hs : 0 ≤ a0) (hs1 : a0 < 4294967296) (h0 : 0 ≤ a1) (h1 : a1 ≤ 4611686018427387904) (w : World) :
    Calls Try.prog 3 #[.int .u32 a0, .int .i64 a1] w fun e w' => e = .returned (.bool true) ∧ Below w.heap.size w w' := by
  have hr := near_rb a0 a1 hs hs1 h0 h1
  by_cases hf : 4611686018427387904 < near a0 a1
  · have R := Lib.hid hr; clear hr
    have F := Lib.hid hf; clear hf
    go_enter Try.func3, Try.ntmps3
    go_wp2_with fail
    (with_reducible refine (snear_any _ _ _ hs hs1 h0 h1).mono ?_); rintro e w1 ⟨he, b1⟩; obtain rfl := told_hi_eq F.out he; clear he
    go_wp2_with fail
    (with_reducible refine (ref_any _ _ _ hs hs1 h0 h1).mono ?_); rintro e w1 ⟨he, rfl⟩; rw [R.out] at he; obtain rfl := told_hi_eq F.out he; clear he
    go_wp2_with fail
    (with_reducible refine (ext_any _ _ h0 h1).mono ?_); rintro e w1 ⟨rfl, rfl⟩
    go_wp2_with fail
    (with_reducible refine (known_any _).mono ?_); rintro e w2 ⟨rfl, b2⟩
    go_wp2_with fail
    go_ret
    exact ⟨rfl, b1.trans (b2.mono b1.size)⟩
  · have R := Lib.hid hr; clear hr
    have F := Lib.hid (show near a0 a1 ≤ 4611686018427387904 by omega); clear hf
    go_enter Try.func3, Try.ntmps3
    go_wp2_with fail
    (with_reducible refine (snear_any _ _ _ hs hs1 h0 h1).mono ?_); rintro e w1 ⟨he, b1⟩; obtain rfl := told_lo_eq F.out he; clear he
    go_wp2_with fail
    (with_reducible refine (ref_any _ _ _ hs hs1 h0 h1).mono ?_); rintro e w1 ⟨he, rfl⟩; rw [R.out] at he; obtain rfl := told_lo_eq F.out he; clear he
    go_wp2_with fail
    (with_reducible refine (ext_any _ _ h0 h1).mono ?_); rintro e w1 ⟨rfl, rfl⟩
    go_wp2_with fail
    (with_reducible refine (known_any _).mono ?_); rintro e w2 ⟨rfl, b2⟩
    go_wp2_with fail
    go_ret
    exact ⟨rfl, b1.trans (b2.mono b1.size)⟩

theorem walk (a0 : Int) (a1 : Int) (w0 : (Lit.int .u32 a0).wf = true) (w1 : (Lit.int .i64 a1).wf = true) (w : World) :
    Calls Try.prog 3 #[.int .u32 a0, .int .i64 a1] w fun e w' => e = .returned (.bool true) ∧ Below w.heap.size w w' := by
  have hs : 0 ≤ a0 ∧ a0 < 4294967296 := u32_in w0
  by_cases h : a1 < 0 ∨ 4611686018427387904 < a1
  · exact outer a0 a1 h w
  · exact inner a0 a1 hs.1 hs.2 (by omega) (by omega) w

/-! ### THE ROW's STEP: WRITTEN OUT: LEAVE IT -/
set_option maxRecDepth 100000 in
theorem lifted (os : Os) (started : os.Started) (H : Type) (enc : TypeId × Value → H) :
    ReturnsInHanded {} Try.checked os 3 .any (Rows.sneNearSpec.pre6 enc Try.prog Try.f3 Rows.sneNearRow.domain false) (Rows.sneNearSpec.post enc Try.prog Try.f3 false true false false) := by
  refine returnsInHanded_of_change (C := Try.checked) own started (by kernel_rfl) Try.func3
    (ChangeSpec.witness6 (enc := enc) (C := Try.checked) false ⟨#[], #[.int .u32 0, .int .i64 0], []⟩ 8 (by kernel_rfl) (by kernel_rfl) (by kernel_rfl) (by kernel_rfl)) ?_
  intro W base args ds gs before hval0 hW hcnd _
  have hval : ∀ (j : Nat) t v, Try.f3.params[j]? = some t → args[j]? = some v → Value.okWide Try.prog W .any base t v := hval0
  have hW' := hW
  obtain ⟨p, q, hA0, hV, rfl, hfz, hnd⟩ := hW
  have hA : DataW.TrodAll enc Try.prog W 0 (fun _ => true) true Try.f3.params.toList args.toList ds p := hA0
  rw [Try.params3] at hA hval
  obtain ⟨v0, vs0, d0, ds0, p0, q0, hargs, rfl, rfl, h0, r0⟩ := trodAll_cons hA
  obtain ⟨v1, vs1, d1, ds1, p1, q1, rfl, rfl, rfl, h1, r1⟩ := trodAll_cons r0
  obtain ⟨rfl, rfl, rfl⟩ := trodAll_nil r1
  obtain rfl : args = #[v0, v1] := by cases args; simp_all
  obtain ⟨rfl, rfl⟩ := trodVars_none hV
  obtain ⟨a0, rfl, rfl, rfl, w0⟩ := open_int Try.underlying22 (hval 0 22 v0 rfl rfl) h0
  obtain ⟨a1, rfl, rfl, rfl, w1⟩ := open_int Try.underlying2 (hval 1 2 v1 rfl rfl) h1
  clear hA0 hval0
  simp only [List.append_nil] at hW'
  refine (walk a0 a1 w0 w1 W).mono fun e W' ⟨he, hg⟩ => ?_
  subst he
  exact ⟨_, rfl, shut_below (pa := []) (pv := []) hW' (fun _ _ _ => (trodAll_cons_mk (shut_bool Try.underlying4 _) trodAll_mk0)) (fun sp _ => (trodAll_cons_mk (shut_int Try.underlying22 w0) (trodAll_cons_mk (shut_int Try.underlying2 w1) trodAll_mk0))) (fun _ _ => rfl) rfl hg⟩

theorem over : Rows.sneNearRow.holds Try.pinned (OpenSpec.ofChange Rows.sneNearSpec) :=
  OpenClaim.holds_of_wide 3 Try.f3 rfl rfl rfl rfl rfl rfl rfl ⟨rfl, rfl, rfl, rfl, rfl⟩ rfl rfl rfl rfl rfl (by kernel_rfl) Try.func3 (by kernel_rfl)
    (of_decide_eq_true (by kernel_rfl)) (by unfold Func.isWrapper; first | (rw [if_pos (by decide +kernel)]; kernel_rfl) | (rw [if_neg (by decide +kernel)]; exact ⟨rfl, rfl⟩))
    (fun os started H enc _ => lifted os started H enc)

end sneNear
theorem sneNear_holds : Rows.SneNearSaid := sneNear.over
#print axioms sneNear_holds
end Go.Proofs.Ytbdkmppfigennaa
