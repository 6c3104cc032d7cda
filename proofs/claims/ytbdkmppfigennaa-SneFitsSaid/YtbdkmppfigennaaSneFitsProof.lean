/-
  For every three numbers, the law pursuivantlaw11.SneFits returns true and leaves its arguments as they were: the nearest long number is near, and found again. Without any condition.
-/
import Derived.Test.YtbdkmppfigennaaRows
import Derived.Test.YtbdkmppfigennaaKnown
import Derived.Test.YtbdkmppfigennaaShut
import Derived.WalkKit
import Derived.ProofKit
namespace Go.Proofs.Ytbdkmppfigennaa
namespace sneFits
open Go.ChangeShapes Go.WideShapes Go.ChangeAt Go.RowKit
set_option linter.unusedVariables false

theorem own : ownKnob Try.prog.godebug = none := by kernel_rfl

theorem near_fits (seq to : Int) (hs : 0 ≤ seq) (hs1 : seq < 4294967296) (h0 : 0 ≤ to) (h1 : to ≤ 2305843009213693952) :
    near seq to % 4294967296 = seq ∧ 0 ≤ near seq to ∧ (near seq to - to ≤ 2147483648 ∨ near seq to < 4294967296) ∧ to - near seq to < 2147483648 ∧ near seq to ≤ 4611686018427387904 := by
  unfold near below base far; omega

theorem near_again (to d : Int) (h0 : 0 ≤ to) (h1 : to ≤ 2305843009213693952) (hd : -2147483648 < d) (hd1 : d ≤ 2147483648) (h : 0 ≤ to + d) :
    near ((to + d) % 4294967296) to = to + d := by
  unfold near below base far; omega

theorem told_fit {seq to : Int} {e : Ending} (hs : 0 ≤ seq) (hs1 : seq < 4294967296) (h0 : 0 ≤ to) (h1 : to ≤ 2305843009213693952) (t : Told (near seq to) e) : e = .returned (.tuple #[.int .i64 (near seq to), .int .i64 0]) :=
  told_lo_eq (near_fits seq to hs hs1 h0 h1).2.2.2.2 t

theorem outer (a0 a1 a2 : Int) (h : a0 < 0 ∨ 2305843009213693952 < a0 ∨ a1 ≤ -2147483648 ∨ 2147483648 < a1) (w : World) :
    Calls Try.prog 4 #[.int .i64 a0, .int .i64 a1, .int .u32 a2] w fun e w' => e = .returned (.bool true) ∧ Below w.heap.size w w' := by
  by_cases c0 : a0 < 0
  · clear h
    go_enter Try.func4, Try.ntmps4
    go_wp2_with fail
    (with_reducible refine (known_any _).mono ?_); rintro e w1 ⟨rfl, b1⟩
    go_wp2_with fail
    go_ret
    exact ⟨rfl, b1⟩
  by_cases c1 : 2305843009213693952 < a0
  · clear h
    go_enter Try.func4, Try.ntmps4
    go_wp2_with fail
    (with_reducible refine (known_any _).mono ?_); rintro e w1 ⟨rfl, b1⟩
    go_wp2_with fail
    go_ret
    exact ⟨rfl, b1⟩
  by_cases c2 : a1 ≤ -2147483648
  · clear h
    go_enter Try.func4, Try.ntmps4
    go_wp2_with fail
    (with_reducible refine (known_any _).mono ?_); rintro e w1 ⟨rfl, b1⟩
    go_wp2_with fail
    go_ret
    exact ⟨rfl, b1⟩
  have c3 : 2147483648 < a1 := by omega
  clear h
  go_enter Try.func4, Try.ntmps4
  go_wp2_with fail
  (with_reducible refine (known_any _).mono ?_); rintro e w1 ⟨rfl, b1⟩
  go_wp2_with fail
  go_ret
  exact ⟨rfl, b1⟩

set_option maxHeartbeats 2000000 in
theorem inner (a0 a1 a2 : Int) (h0 : 0 ≤ a0) (h1 : a0 ≤ 2305843009213693952) (h2 : -2147483648 < a1) (h3 : a1 ≤ 2147483648) (hs : 0 ≤ a2) (hs1 : a2 < 4294967296) (w : World) :
    Calls Try.prog 4 #[.int .i64 a0, .int .i64 a1, .int .u32 a2] w fun e w' => e = .returned (.bool true) ∧ Below w.heap.size w w' := by
  have k0 : ¬ a0 < 0 := by omega
  have k1 : ¬ 2305843009213693952 < a0 := by omega
  have k2 : ¬ a1 ≤ -2147483648 := by omega
  have k3 : ¬ 2147483648 < a1 := by omega
  have F := Lib.hid (near_fits a2 a0 hs hs1 h0 h1)
  go_enter Try.func4, Try.ntmps4
  go_wp2_with fail
  (with_reducible refine (snear_any _ _ _ hs hs1 h0 (by omega)).mono ?_); rintro e w1 ⟨he, b1⟩; obtain rfl := told_fit hs hs1 h0 h1 he; clear he
  obtain ⟨f1, f2, f3, f4, f5⟩ := F.out
  have f1' : (near a2 a0 % 4294967296 == a2) = true := by simpa using f1
  have F1 := Lib.hid f1; clear f1
  go_wp2_with fail
  · (with_reducible refine (known_any _).mono ?_); rintro e w2 ⟨rfl, b2⟩
    go_wp2_with fail
    go_ret
    exact ⟨rfl, b1.trans (b2.mono b1.size)⟩
  · have hp : 0 ≤ a0 + a1 := by assumption
    (with_reducible refine (snear_any _ _ _ (by omega) (by omega) h0 (by omega)).mono ?_); rintro e w2 ⟨he, b2⟩
    rw [near_again a0 a1 h0 h1 h2 h3 hp] at he; obtain rfl := told_lo_eq (by omega) he; clear he
    go_wp2_with fail
    (with_reducible refine (known_any _).mono ?_); rintro e w3 ⟨rfl, b3⟩
    go_wp2_with fail
    go_ret
    exact ⟨rfl, (b1.trans (b2.mono b1.size)).trans (b3.mono (Nat.le_trans b1.size b2.size))⟩
  · (with_reducible refine (known_any _).mono ?_); rintro e w2 ⟨rfl, b2⟩
    go_wp2_with fail
    go_ret
    exact ⟨rfl, b1.trans (b2.mono b1.size)⟩
  · have hp : 0 ≤ a0 + a1 := by assumption
    (with_reducible refine (snear_any _ _ _ (by omega) (by omega) h0 (by omega)).mono ?_); rintro e w2 ⟨he, b2⟩
    rw [near_again a0 a1 h0 h1 h2 h3 hp] at he; obtain rfl := told_lo_eq (by omega) he; clear he
    go_wp2_with fail
    (with_reducible refine (known_any _).mono ?_); rintro e w3 ⟨rfl, b3⟩
    go_wp2_with fail
    go_ret
    exact ⟨rfl, (b1.trans (b2.mono b1.size)).trans (b3.mono (Nat.le_trans b1.size b2.size))⟩

theorem walk (a0 : Int) (a1 : Int) (a2 : Int) (w0 : (Lit.int .i64 a0).wf = true) (w1 : (Lit.int .i64 a1).wf = true) (w2 : (Lit.int .u32 a2).wf = true) (w : World) :
    Calls Try.prog 4 #[.int .i64 a0, .int .i64 a1, .int .u32 a2] w fun e w' => e = .returned (.bool true) ∧ Below w.heap.size w w' := by
  have hs := u32_in w2
  by_cases h : a0 < 0 ∨ 2305843009213693952 < a0 ∨ a1 ≤ -2147483648 ∨ 2147483648 < a1
  · exact outer a0 a1 a2 h w
  · exact inner a0 a1 a2 (by omega) (by omega) (by omega) (by omega) hs.1 hs.2 w

set_option maxRecDepth 100000 in
theorem lifted (os : Os) (started : os.Started) (H : Type) (enc : TypeId × Value → H) :
    ReturnsInHanded {} Try.checked os 4 .any (Rows.sneFitsSpec.pre6 enc Try.prog Try.f4 Rows.sneFitsRow.domain false) (Rows.sneFitsSpec.post enc Try.prog Try.f4 false true false false) := by
  refine returnsInHanded_of_change (C := Try.checked) own started (by kernel_rfl) Try.func4
    (ChangeSpec.witness6 (enc := enc) (C := Try.checked) false ⟨#[], #[.int .i64 0, .int .i64 0, .int .u32 0], []⟩ 8 (by kernel_rfl) (by kernel_rfl) (by kernel_rfl) (by kernel_rfl)) ?_
  intro W base args ds gs before hval0 hW hcnd _
  have hval : ∀ (j : Nat) t v, Try.f4.params[j]? = some t → args[j]? = some v → Value.okWide Try.prog W .any base t v := hval0
  have hW' := hW
  obtain ⟨p, q, hA0, hV, rfl, hfz, hnd⟩ := hW
  have hA : DataW.TrodAll enc Try.prog W 0 (fun _ => true) true Try.f4.params.toList args.toList ds p := hA0
  rw [Try.params4] at hA hval
  obtain ⟨v0, vs0, d0, ds0, p0, q0, hargs, rfl, rfl, h0, r0⟩ := trodAll_cons hA
  obtain ⟨v1, vs1, d1, ds1, p1, q1, rfl, rfl, rfl, h1, r1⟩ := trodAll_cons r0
  obtain ⟨v2, vs2, d2, ds2, p2, q2, rfl, rfl, rfl, h2, r2⟩ := trodAll_cons r1
  obtain ⟨rfl, rfl, rfl⟩ := trodAll_nil r2
  obtain rfl : args = #[v0, v1, v2] := by cases args; simp_all
  obtain ⟨rfl, rfl⟩ := trodVars_none hV
  obtain ⟨a0, rfl, rfl, rfl, w0⟩ := open_int Try.underlying2 (hval 0 2 v0 rfl rfl) h0
  obtain ⟨a1, rfl, rfl, rfl, w1⟩ := open_int Try.underlying2 (hval 1 2 v1 rfl rfl) h1
  obtain ⟨a2, rfl, rfl, rfl, w2⟩ := open_int Try.underlying22 (hval 2 22 v2 rfl rfl) h2
  clear hA0 hval0
  simp only [List.append_nil] at hW'
  refine (walk a0 a1 a2 w0 w1 w2 W).mono fun e W' ⟨he, hg⟩ => ?_
  subst he
  exact ⟨_, rfl, shut_below (pa := []) (pv := []) hW' (fun _ _ _ => (trodAll_cons_mk (shut_bool Try.underlying4 _) trodAll_mk0)) (fun sp _ => (trodAll_cons_mk (shut_int Try.underlying2 w0) (trodAll_cons_mk (shut_int Try.underlying2 w1) (trodAll_cons_mk (shut_int Try.underlying22 w2) trodAll_mk0)))) (fun _ _ => rfl) rfl hg⟩

theorem over : Rows.sneFitsRow.holds Try.pinned (OpenSpec.ofChange Rows.sneFitsSpec) :=
  OpenClaim.holds_of_wide 4 Try.f4 rfl rfl rfl rfl rfl rfl rfl ⟨rfl, rfl, rfl, rfl, rfl⟩ rfl rfl rfl rfl rfl (by kernel_rfl) Try.func4 (by kernel_rfl)
    (of_decide_eq_true (by kernel_rfl)) (by unfold Func.isWrapper; first | (rw [if_pos (by decide +kernel)]; kernel_rfl) | (rw [if_neg (by decide +kernel)]; exact ⟨rfl, rfl⟩))
    (fun os started H enc _ => lifted os started H enc)

end sneFits
theorem sneFits_holds : Rows.SneFitsSaid := sneFits.over
end Go.Proofs.Ytbdkmppfigennaa
