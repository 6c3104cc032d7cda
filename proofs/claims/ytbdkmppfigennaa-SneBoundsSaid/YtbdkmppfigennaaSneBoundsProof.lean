/-
  For every two numbers, the law pursuivantlaw11.SneBounds returns true and leaves its arguments as they were: marks near the top refuse what is above it, and marks that are not there answer so. Without any condition.
-/
import Derived.Test.YtbdkmppfigennaaRows
import Derived.Test.YtbdkmppfigennaaSame
import Derived.Test.YtbdkmppfigennaaShut
import Derived.WalkKit
import Derived.ProofKit
namespace Go.Proofs.Ytbdkmppfigennaa
namespace sneBounds
open Go.ChangeShapes Go.WideShapes Go.ChangeAt Go.RowKit
set_option linter.unusedVariables false

theorem own : ownKnob Try.prog.godebug = none := by kernel_rfl

theorem outer (a0 a1 : Int) (h : a0 < 0 ∨ 8589934592 < a0) (w : World) :
    Calls Try.prog 6 #[.int .i64 a0, .int .u32 a1] w fun e w' => e = .returned (.bool true) ∧ Below w.heap.size w w' := by
  by_cases c0 : a0 < 0
  · clear h
    go_enter Try.func6, Try.ntmps6
    go_wp2_with fail
    (with_reducible refine (known_any _).mono ?_); rintro e w1 ⟨rfl, b1⟩
    go_wp2_with fail
    go_ret
    exact ⟨rfl, b1⟩
  have c1 : 8589934592 < a0 := by omega
  clear h
  go_enter Try.func6, Try.ntmps6
  go_wp2_with fail
  (with_reducible refine (known_any _).mono ?_); rintro e w1 ⟨rfl, b1⟩
  go_wp2_with fail
  go_ret
  exact ⟨rfl, b1⟩

/-- the greater one of two -/
def big (n k : Int) : Int := if n ≤ k then k else n

theorem take_hi (b : Nat) (n seq : Int) (w : World) (h : Mk w b n) (hs : 0 ≤ seq) (hs1 : seq < 4294967296) (hn : 0 ≤ n) (hn1 : n ≤ 4611686018427387904) (hf : 4611686018427387904 < near seq n) :
    Calls Try.prog 16 #[.pointer (some ⟨b, 0, none⟩), .int .u32 seq] w fun e w' => e = .returned (.tuple #[.int .i64 0, .int .i64 210]) ∧ Mk w' b n ∧ Below w.heap.size w w' := by
  go_enter Try.func16, Try.ntmps16
  go_wp2
  refine wp_scope_fwd 0 rfl ?_
  go_wp2_with fail
  (with_reducible refine (look_mk _ _ _ _ h hs hs1 hn hn1).mono ?_); rintro e w1 ⟨he, m1, b1⟩; obtain rfl := told_hi_eq hf he; clear he
  go_wp2_with fail
  go_step3
  refine ⟨rfl, ?_⟩
  go_wp2
  rw [Exit.noGoto_ret]
  go_ret2
  exact ⟨rfl, m1, b1⟩

set_option maxHeartbeats 4000000 in
theorem walk_hi (a0 a1 : Int) (h0 : 0 ≤ a0) (h1 : a0 ≤ 8589934592) (hs : 0 ≤ a1) (hs1 : a1 < 4294967296) (hf : 4611686018427387904 < near a1 (4611686018427387904 - a0)) (w : World) :
    Calls Try.prog 6 #[.int .i64 a0, .int .u32 a1] w fun e w' => e = .returned (.bool true) ∧ Below w.heap.size w w' := by
  have R := Lib.hid (near_rb a1 (4611686018427387904 - a0) hs hs1 (by omega) (by omega))
  have F := Lib.hid hf; clear hf
  have k0 : ¬ a0 < 0 := by omega
  have k1 : ¬ 8589934592 < a0 := by omega
  go_enter Try.func6, Try.ntmps6
  go_wp2_with fail
  (with_reducible refine (of_mk _ _ (by omega) (by omega)).mono ?_); rintro e w1 ⟨rfl, m1, b1⟩
  go_wp2_with fail
  (with_reducible refine (ref_any _ _ _ hs hs1 (by omega) (by omega)).mono ?_); rintro e w2 ⟨he, rfl⟩; rw [R.out] at he; obtain rfl := told_hi_eq F.out he; clear he
  go_wp2_with fail
  (with_reducible refine (take_hi _ _ _ _ m1 hs hs1 (by omega) (by omega) F.out).mono ?_); rintro e w3 ⟨rfl, m3, b3⟩
  go_wp2_with fail
  (with_reducible refine (value_mk _ _ _ m3).mono ?_); rintro e w4 ⟨rfl, m4, b4⟩
  go_wp2_with fail
  have zn := zk_new w4
  have ba : Below w4.heap.size w4 (w4.alloc (.cells #[.int .i64 0, .bool false] 47)) := (Below.refl _ _).alloc (Nat.le_refl _) _
  have ma := m4.below ba m4.lt
  (with_reducible refine (look_nil _ _).mono ?_); rintro e w5 ⟨rfl, rfl⟩
  go_wp2_with fail
  (with_reducible refine (take_zero _ _ _ zn).mono ?_); rintro e w5 ⟨rfl, rfl⟩
  go_wp2_with fail
  (with_reducible refine (of_out _ _ (by omega)).mono ?_); rintro e w5 ⟨rfl, rfl⟩
  go_wp2_with fail
  (with_reducible refine (of_out _ _ (by omega)).mono ?_); rintro e w5 ⟨rfl, rfl⟩
  go_wp2_with fail
  (with_reducible refine (value_nil _).mono ?_); rintro e w5 ⟨rfl, b5⟩
  have z5 := zn.below b5 zn.lt
  have m5 := ma.below b5 ma.lt
  go_wp2_with fail
  (with_reducible refine (copy_zero _ _ z5).mono ?_); rintro e w6 ⟨rfl, rfl⟩
  go_wp2_with fail
  (with_reducible refine (same_nil_zero _ _ z5).mono ?_); rintro e w6 ⟨rfl, rfl⟩
  go_wp2_with fail
  (with_reducible refine (same_mk_zero _ _ _ _ m5 z5).mono ?_); rintro e w6 ⟨rfl, rfl⟩
  go_wp2_with fail
  (with_reducible refine (same_nil_mk _ _ _ m5).mono ?_); rintro e w6 ⟨rfl, rfl⟩
  go_wp2_with fail
  (with_reducible refine (known_any _).mono ?_); rintro e w6 ⟨rfl, b6⟩
  go_wp2_with fail
  go_ret
  exact ⟨rfl, ((((b1.trans (b3.mono b1.size)).trans (b4.mono (Nat.le_trans b1.size b3.size))).trans (ba.mono (Nat.le_trans b1.size (Nat.le_trans b3.size b4.size)))).trans (b5.mono (Nat.le_trans b1.size (Nat.le_trans b3.size (Nat.le_trans b4.size ba.size))))).trans (b6.mono (Nat.le_trans b1.size (Nat.le_trans b3.size (Nat.le_trans b4.size (Nat.le_trans ba.size b5.size)))))⟩

theorem mk_eq {w : World} {b : Nat} {n k : Int} (h : Mk w b n) (e : n = k) : Mk w b k := e ▸ h

set_option maxHeartbeats 4000000 in
theorem walk_lo1 (a0 a1 : Int) (h0 : 0 ≤ a0) (h1 : a0 ≤ 8589934592) (hs : 0 ≤ a1) (hs1 : a1 < 4294967296) (hf : near a1 (4611686018427387904 - a0) ≤ 4611686018427387904) (hc : 4611686018427387904 - a0 < near a1 (4611686018427387904 - a0)) (w : World) :
    Calls Try.prog 6 #[.int .i64 a0, .int .u32 a1] w fun e w' => e = .returned (.bool true) ∧ Below w.heap.size w w' := by
  have R := Lib.hid (near_rb a1 (4611686018427387904 - a0) hs hs1 (by omega) (by omega))
  have F := Lib.hid hf; clear hf
  have k0 : ¬ a0 < 0 := by omega
  have k1 : ¬ 8589934592 < a0 := by omega
  go_enter Try.func6, Try.ntmps6
  go_wp2_with fail
  (with_reducible refine (of_mk _ _ (by omega) (by omega)).mono ?_); rintro e w1 ⟨rfl, m1, b1⟩
  go_wp2_with fail
  (with_reducible refine (ref_any _ _ _ hs hs1 (by omega) (by omega)).mono ?_); rintro e w2 ⟨he, rfl⟩; rw [R.out] at he; obtain rfl := told_lo_eq F.out he; clear he
  go_wp2_with fail
  (with_reducible refine (take_mk _ _ _ _ m1 hs hs1 (by omega) (by omega) F.out).mono ?_); rintro e w3 ⟨rfl, m3', b3⟩
  have m3 := mk_eq m3' (k := near a1 (4611686018427387904 - a0)) (by split <;> omega)
  clear m3'
  go_wp2_with fail
  (with_reducible refine (value_mk _ _ _ m3).mono ?_); rintro e w4 ⟨rfl, m4, b4⟩
  go_wp2_with fail
  have zn := zk_new w4
  have ba : Below w4.heap.size w4 (w4.alloc (.cells #[.int .i64 0, .bool false] 47)) := (Below.refl _ _).alloc (Nat.le_refl _) _
  have ma := m4.below ba m4.lt
  (with_reducible refine (look_nil _ _).mono ?_); rintro e w5 ⟨rfl, rfl⟩
  go_wp2_with fail
  (with_reducible refine (take_zero _ _ _ zn).mono ?_); rintro e w5 ⟨rfl, rfl⟩
  go_wp2_with fail
  (with_reducible refine (of_out _ _ (by omega)).mono ?_); rintro e w5 ⟨rfl, rfl⟩
  go_wp2_with fail
  (with_reducible refine (of_out _ _ (by omega)).mono ?_); rintro e w5 ⟨rfl, rfl⟩
  go_wp2_with fail
  (with_reducible refine (value_nil _).mono ?_); rintro e w5 ⟨rfl, b5⟩
  have z5 := zn.below b5 zn.lt
  have m5 := ma.below b5 ma.lt
  go_wp2_with fail
  (with_reducible refine (copy_zero _ _ z5).mono ?_); rintro e w6 ⟨rfl, rfl⟩
  go_wp2_with fail
  (with_reducible refine (same_nil_zero _ _ z5).mono ?_); rintro e w6 ⟨rfl, rfl⟩
  go_wp2_with fail
  (with_reducible refine (same_mk_zero _ _ _ _ m5 z5).mono ?_); rintro e w6 ⟨rfl, rfl⟩
  go_wp2_with fail
  (with_reducible refine (same_nil_mk _ _ _ m5).mono ?_); rintro e w6 ⟨rfl, rfl⟩
  go_wp2_with fail
  (with_reducible refine (known_any _).mono ?_); rintro e w6 ⟨rfl, b6⟩
  go_wp2_with fail
  go_ret
  exact ⟨rfl, ((((b1.trans b3).trans (b4.mono (Nat.le_trans b1.size b3.size))).trans (ba.mono (Nat.le_trans b1.size (Nat.le_trans b3.size b4.size)))).trans (b5.mono (Nat.le_trans b1.size (Nat.le_trans b3.size (Nat.le_trans b4.size ba.size))))).trans (b6.mono (Nat.le_trans b1.size (Nat.le_trans b3.size (Nat.le_trans b4.size (Nat.le_trans ba.size b5.size)))))⟩

set_option maxHeartbeats 4000000 in
theorem walk_lo2 (a0 a1 : Int) (h0 : 0 ≤ a0) (h1 : a0 ≤ 8589934592) (hs : 0 ≤ a1) (hs1 : a1 < 4294967296) (hf : near a1 (4611686018427387904 - a0) ≤ 4611686018427387904) (hc : near a1 (4611686018427387904 - a0) ≤ 4611686018427387904 - a0) (w : World) :
    Calls Try.prog 6 #[.int .i64 a0, .int .u32 a1] w fun e w' => e = .returned (.bool true) ∧ Below w.heap.size w w' := by
  have R := Lib.hid (near_rb a1 (4611686018427387904 - a0) hs hs1 (by omega) (by omega))
  have F := Lib.hid hf; clear hf
  have k0 : ¬ a0 < 0 := by omega
  have k1 : ¬ 8589934592 < a0 := by omega
  go_enter Try.func6, Try.ntmps6
  go_wp2_with fail
  (with_reducible refine (of_mk _ _ (by omega) (by omega)).mono ?_); rintro e w1 ⟨rfl, m1, b1⟩
  go_wp2_with fail
  (with_reducible refine (ref_any _ _ _ hs hs1 (by omega) (by omega)).mono ?_); rintro e w2 ⟨he, rfl⟩; rw [R.out] at he; obtain rfl := told_lo_eq F.out he; clear he
  go_wp2_with fail
  (with_reducible refine (take_mk _ _ _ _ m1 hs hs1 (by omega) (by omega) F.out).mono ?_); rintro e w3 ⟨rfl, m3', b3⟩
  have m3 := mk_eq m3' (k := 4611686018427387904 - a0) (by split <;> omega)
  clear m3'
  go_wp2_with fail
  (with_reducible refine (value_mk _ _ _ m3).mono ?_); rintro e w4 ⟨rfl, m4, b4⟩
  go_wp2_with fail
  have zn := zk_new w4
  have ba : Below w4.heap.size w4 (w4.alloc (.cells #[.int .i64 0, .bool false] 47)) := (Below.refl _ _).alloc (Nat.le_refl _) _
  have ma := m4.below ba m4.lt
  (with_reducible refine (look_nil _ _).mono ?_); rintro e w5 ⟨rfl, rfl⟩
  go_wp2_with fail
  (with_reducible refine (take_zero _ _ _ zn).mono ?_); rintro e w5 ⟨rfl, rfl⟩
  go_wp2_with fail
  (with_reducible refine (of_out _ _ (by omega)).mono ?_); rintro e w5 ⟨rfl, rfl⟩
  go_wp2_with fail
  (with_reducible refine (of_out _ _ (by omega)).mono ?_); rintro e w5 ⟨rfl, rfl⟩
  go_wp2_with fail
  (with_reducible refine (value_nil _).mono ?_); rintro e w5 ⟨rfl, b5⟩
  have z5 := zn.below b5 zn.lt
  have m5 := ma.below b5 ma.lt
  go_wp2_with fail
  (with_reducible refine (copy_zero _ _ z5).mono ?_); rintro e w6 ⟨rfl, rfl⟩
  go_wp2_with fail
  (with_reducible refine (same_nil_zero _ _ z5).mono ?_); rintro e w6 ⟨rfl, rfl⟩
  go_wp2_with fail
  (with_reducible refine (same_mk_zero _ _ _ _ m5 z5).mono ?_); rintro e w6 ⟨rfl, rfl⟩
  go_wp2_with fail
  (with_reducible refine (same_nil_mk _ _ _ m5).mono ?_); rintro e w6 ⟨rfl, rfl⟩
  go_wp2_with fail
  (with_reducible refine (known_any _).mono ?_); rintro e w6 ⟨rfl, b6⟩
  go_wp2_with fail
  go_ret
  exact ⟨rfl, ((((b1.trans b3).trans (b4.mono (Nat.le_trans b1.size b3.size))).trans (ba.mono (Nat.le_trans b1.size (Nat.le_trans b3.size b4.size)))).trans (b5.mono (Nat.le_trans b1.size (Nat.le_trans b3.size (Nat.le_trans b4.size ba.size))))).trans (b6.mono (Nat.le_trans b1.size (Nat.le_trans b3.size (Nat.le_trans b4.size (Nat.le_trans ba.size b5.size)))))⟩

theorem walk (a0 : Int) (a1 : Int) (w0 : (Lit.int .i64 a0).wf = true) (w1 : (Lit.int .u32 a1).wf = true) (w : World) :
    Calls Try.prog 6 #[.int .i64 a0, .int .u32 a1] w fun e w' => e = .returned (.bool true) ∧ Below w.heap.size w w' := by
  have hs := u32_in w1
  by_cases h : a0 < 0 ∨ 8589934592 < a0
  · exact outer a0 a1 h w
  · by_cases hf : 4611686018427387904 < near a1 (4611686018427387904 - a0)
    · exact walk_hi a0 a1 (by omega) (by omega) hs.1 hs.2 hf w
    · by_cases hc : 4611686018427387904 - a0 < near a1 (4611686018427387904 - a0)
      · exact walk_lo1 a0 a1 (by omega) (by omega) hs.1 hs.2 (by omega) hc w
      · exact walk_lo2 a0 a1 (by omega) (by omega) hs.1 hs.2 (by omega) (by omega) w

set_option maxRecDepth 100000 in
theorem lifted (os : Os) (started : os.Started) (H : Type) (enc : TypeId × Value → H) :
    ReturnsInHanded {} Try.checked os 6 .any (Rows.sneBoundsSpec.pre6 enc Try.prog Try.f6 Rows.sneBoundsRow.domain false) (Rows.sneBoundsSpec.post enc Try.prog Try.f6 false true false false) := by
  refine returnsInHanded_of_change (C := Try.checked) own started (by kernel_rfl) Try.func6
    (ChangeSpec.witness6 (enc := enc) (C := Try.checked) false ⟨#[], #[.int .i64 0, .int .u32 0], []⟩ 8 (by kernel_rfl) (by kernel_rfl) (by kernel_rfl) (by kernel_rfl)) ?_
  intro W base args ds gs before hval0 hW hcnd _
  have hval : ∀ (j : Nat) t v, Try.f6.params[j]? = some t → args[j]? = some v → Value.okWide Try.prog W .any base t v := hval0
  have hW' := hW
  obtain ⟨p, q, hA0, hV, rfl, hfz, hnd⟩ := hW
  have hA : DataW.TrodAll enc Try.prog W 0 (fun _ => true) true Try.f6.params.toList args.toList ds p := hA0
  rw [Try.params6] at hA hval
  obtain ⟨v0, vs0, d0, ds0, p0, q0, hargs, rfl, rfl, h0, r0⟩ := trodAll_cons hA
  obtain ⟨v1, vs1, d1, ds1, p1, q1, rfl, rfl, rfl, h1, r1⟩ := trodAll_cons r0
  obtain ⟨rfl, rfl, rfl⟩ := trodAll_nil r1
  obtain rfl : args = #[v0, v1] := by cases args; simp_all
  obtain ⟨rfl, rfl⟩ := trodVars_none hV
  obtain ⟨a0, rfl, rfl, rfl, w0⟩ := open_int Try.underlying2 (hval 0 2 v0 rfl rfl) h0
  obtain ⟨a1, rfl, rfl, rfl, w1⟩ := open_int Try.underlying22 (hval 1 22 v1 rfl rfl) h1
  clear hA0 hval0
  simp only [List.append_nil] at hW'
  refine (walk a0 a1 w0 w1 W).mono fun e W' ⟨he, hg⟩ => ?_
  subst he
  exact ⟨_, rfl, shut_below (pa := []) (pv := []) hW' (fun _ _ _ => (trodAll_cons_mk (shut_bool Try.underlying4 _) trodAll_mk0)) (fun sp _ => (trodAll_cons_mk (shut_int Try.underlying2 w0) (trodAll_cons_mk (shut_int Try.underlying22 w1) trodAll_mk0))) (fun _ _ => rfl) rfl hg⟩

theorem over : Rows.sneBoundsRow.holds Try.pinned (OpenSpec.ofChange Rows.sneBoundsSpec) :=
  OpenClaim.holds_of_wide 6 Try.f6 rfl rfl rfl rfl rfl rfl rfl ⟨rfl, rfl, rfl, rfl, rfl⟩ rfl rfl rfl rfl rfl (by kernel_rfl) Try.func6 (by kernel_rfl)
    (of_decide_eq_true (by kernel_rfl)) (by unfold Func.isWrapper; first | (rw [if_pos (by decide +kernel)]; kernel_rfl) | (rw [if_neg (by decide +kernel)]; exact ⟨rfl, rfl⟩))
    (fun os started H enc _ => lifted os started H enc)

end sneBounds
theorem sneBounds_holds : Rows.SneBoundsSaid := sneBounds.over
end Go.Proofs.Ytbdkmppfigennaa
