/-
  For every ISN, all Seqs and all truths, the law pursuivantlaw11.SneMarks returns true and leaves its arguments as they were: a mark looked at and taken, Seq by Seq, is the document's, and copies go on apart. Without any condition.
-/
import Derived.Test.YtbdkmppfigennaaRows
import Derived.Test.YtbdkmppfigennaaMarks
import Derived.Test.YtbdkmppfigennaaOpen
import Derived.WalkKit
import Derived.ProofKit
import Derived.ShutString
import Derived.ChangeOld
import Derived.Below
namespace Go.Proofs.Ytbdkmppfigennaa
namespace sneMarks
open Go.ChangeShapes Go.WideShapes Go.ChangeAt Go.RowKit
open Go.ChangeMaps (open_string shut_string)
set_option linter.unusedVariables false

theorem own : ownKnob Try.prog.godebug = none := by kernel_rfl
theorem laidOut : laidOutB Try.prog = true := by kernel_rfl

theorem none_walk (isn : Int) (x y : Option Addr) (c1 n2 c2 : Nat) (w : World) (hi : 0 ≤ isn) (hi1 : isn < 4294967296) (h3 : n2 ≤ 100) :
    Calls Try.prog 5 #[.int .u32 isn, .slice x 0 c1, .slice y n2 c2] w fun e w' => e = .returned (.bool true) ∧ Below w.heap.size w w' := by
  have k3 : ¬ (100 : Int) < (n2 : Int) := by omega
  have k2 : ¬ (n2 : Int) < 0 := by omega
  go_enter Try.func5, Try.ntmps5
  go_wp2_with fail
  (with_reducible refine (new_mk _ _ hi hi1).mono ?_); rintro e w1 ⟨rfl, m1, b1⟩
  go_wp2_with fail
  refine wp_loop_rounds 1 ?_
  rw [rounds_succ]
  go_wp2_with fail
  (with_reducible refine (known_any _).mono ?_); rintro e w2 ⟨rfl, b2⟩
  go_wp2_with fail
  go_ret
  exact ⟨rfl, b1.trans (b2.mono b1.size)⟩

theorem outer (isn : Int) (x y : Option Addr) (n1 c1 n2 c2 : Nat) (w : World) (h : 60 < n1 ∨ n2 < n1 ∨ 100 < n2) (hm : n1 ≤ 9223372036854775807) (hm2 : n2 ≤ 9223372036854775807) :
    Calls Try.prog 5 #[.int .u32 isn, .slice x n1 c1, .slice y n2 c2] w fun e w' => e = .returned (.bool true) ∧ Below w.heap.size w w' := by
  by_cases c0 : 60 < n1
  · have k1 : (60 : Int) < (n1 : Int) := by omega
    clear h c0
    go_enter Try.func5, Try.ntmps5
    go_wp2_with fail
    (with_reducible refine (known_any _).mono ?_); rintro e w2 ⟨rfl, b2⟩
    go_wp2_with fail
    go_ret
    exact ⟨rfl, b2⟩
  have k1 : ¬ (60 : Int) < (n1 : Int) := by omega
  by_cases c1 : n2 < n1
  · have k2 : (n2 : Int) < (n1 : Int) := by omega
    clear h c0
    go_enter Try.func5, Try.ntmps5
    go_wp2_with fail
    (with_reducible refine (known_any _).mono ?_); rintro e w2 ⟨rfl, b2⟩
    go_wp2_with fail
    go_ret
    exact ⟨rfl, b2⟩
  have k2 : ¬ (n2 : Int) < (n1 : Int) := by omega
  have k3 : (100 : Int) < (n2 : Int) := by omega
  clear h c0
  go_enter Try.func5, Try.ntmps5
  go_wp2_with fail
  (with_reducible refine (known_any _).mono ?_); rintro e w2 ⟨rfl, b2⟩
  go_wp2_with fail
  go_ret
  exact ⟨rfl, b2⟩

theorem walk (W : World) (a0 : Int) (w0 : (Lit.int .u32 a0).wf = true) (a1 : Option Addr) (n1 c1 : Nat) (u1 : n1 ≤ c1) (x1 : c1 ≤ maxLen)
    (r1 : n1 = 0 ∨ ∃ (b o : Nat) (f : Nat → Int), a1 = some ⟨b, o, none⟩ ∧ b < W.heap.size ∧ ∀ i, i < n1 → W.cell? ⟨b, o + i, none⟩ = some (.int .u32 (f i)) ∧ (Lit.int .u32 (f i)).wf = true)
    (a2 : Option Addr) (n2 c2 : Nat) (u2 : n2 ≤ c2) (x2 : c2 ≤ maxLen)
    (r2 : n2 = 0 ∨ ∃ (b o : Nat) (f : Nat → Bool), a2 = some ⟨b, o, none⟩ ∧ b < W.heap.size ∧ ∀ i, i < n2 → W.cell? ⟨b, o + i, none⟩ = some (.bool (f i))) :
    Calls Try.prog 5 #[.int .u32 a0, .slice a1 n1 c1, .slice a2 n2 c2] W fun e w' => e = .returned (.bool true) ∧ Below W.heap.size W w' := by
  unfold maxLen at x1 x2
  obtain ⟨s0, s1⟩ := u32_in w0
  by_cases h : 60 < n1 ∨ n2 < n1 ∨ 100 < n2
  · exact outer a0 a1 a2 n1 c1 n2 c2 W h (by omega) (by omega)
  · rcases r1 with rfl | ⟨b, o, f, rfl, hb, hf⟩
    · exact none_walk a0 a1 a2 c1 n2 c2 W s0 s1 (by omega)
    · by_cases h0 : n1 = 0
      · subst h0
        exact none_walk a0 _ a2 c1 n2 c2 W s0 s1 (by omega)
      · rcases r2 with rfl | ⟨b', o', g, rfl, hb', hg⟩
        · omega
        · exact marks_walk a0 b o c1 b' o' c2 n1 n2 f g W s0 s1 (by omega) (by omega) (by omega) hb hb' (fun i hi => (hf i hi).1) (fun i hi => u32_in (hf i hi).2) hg

set_option maxRecDepth 100000 in
theorem lifted (os : Os) (started : os.Started) (H : Type) (enc : TypeId × Value → H) :
    ReturnsInHanded {} Try.checked os 5 .any (Rows.sneMarksSpec.pre6 enc Try.prog Try.f5 Rows.sneMarksRow.domain false) (Rows.sneMarksSpec.post enc Try.prog Try.f5 false true false false) := by
  refine returnsInHanded_of_change (C := Try.checked) own started (by kernel_rfl) Try.func5
    (ChangeSpec.witness6 (enc := enc) (C := Try.checked) false ⟨#[], #[.int .u32 0, .slice none 0 0, .slice none 0 0], []⟩ 8 (by kernel_rfl) (by kernel_rfl) (by kernel_rfl) (by kernel_rfl)) ?_
  intro W base args ds gs before hval0 hW hcnd _
  have hval : ∀ (j : Nat) t v, Try.f5.params[j]? = some t → args[j]? = some v → Value.okWide Try.prog W .any base t v := hval0
  have hW' := hW
  obtain ⟨p, q, hA0, hV, rfl, hfz, hnd⟩ := hW
  have hA : DataW.TrodAll enc Try.prog W 0 (fun _ => true) true Try.f5.params.toList args.toList ds p := hA0
  rw [Try.params5] at hA hval
  obtain ⟨v0, vs0, d0, ds0, p0, q0, hargs, rfl, rfl, h0, r0⟩ := trodAll_cons hA
  obtain ⟨v1, vs1, d1, ds1, p1, q1, rfl, rfl, rfl, h1, r1⟩ := trodAll_cons r0
  obtain ⟨v2, vs2, d2, ds2, p2, q2, rfl, rfl, rfl, h2, r2⟩ := trodAll_cons r1
  obtain ⟨rfl, rfl, rfl⟩ := trodAll_nil r2
  obtain rfl : args = #[v0, v1, v2] := by cases args; simp_all
  obtain ⟨rfl, rfl⟩ := trodVars_none hV
  have k0 := h0
  have lt0 : ∀ x ∈ p0, x.block < W.heap.size := by obtain ⟨m, hm⟩ := k0; exact DataW.trod_lt m _ _ _ hm
  have k1 := h1
  have lt1 : ∀ x ∈ p1, x.block < W.heap.size := by obtain ⟨m, hm⟩ := k1; exact DataW.trod_lt m _ _ _ hm
  have k2 := h2
  have lt2 : ∀ x ∈ p2, x.block < W.heap.size := by obtain ⟨m, hm⟩ := k2; exact DataW.trod_lt m _ _ _ hm
  obtain ⟨a0, rfl, rfl, rfl, w0⟩ := open_int Try.underlying22 (hval 0 22 v0 rfl rfl) h0
  obtain ⟨a1, n1, c1, rfl, u1, x1, z1⟩ := open_irow Try.underlying33 Try.underlying22 (by kernel_rfl) (hval 1 33 v1 rfl rfl) h1
  obtain ⟨a2, n2, c2, rfl, u2, x2, z2⟩ := open_brow Try.underlying34 Try.underlying4 (by kernel_rfl) (hval 2 34 v2 rfl rfl) h2
  clear hA0 hval0
  refine (walk W a0 w0 a1 n1 c1 u1 x1 z1 a2 n2 c2 u2 x2 z2).mono fun e W' ⟨he, bel⟩ => ?_
  subst he
  exact ⟨_, rfl, _, _, _, [], _, [], hW', trodAll_mk1 (shut_bool Try.underlying4 _), (trodAll_cons_mk (Below.trod laidOut (by kernel_rfl) (of_decide_eq_true (by kernel_rfl)) k0 bel lt0) (trodAll_cons_mk (Below.trod laidOut (by kernel_rfl) (of_decide_eq_true (by kernel_rfl)) k1 bel lt1) (trodAll_cons_mk (Below.trod laidOut (by kernel_rfl) (of_decide_eq_true (by kernel_rfl)) k2 bel lt2) trodAll_mk0))), rfl, bel.frame _, fun h => by cases h⟩

theorem over : Rows.sneMarksRow.holds Try.pinned (OpenSpec.ofChange Rows.sneMarksSpec) :=
  OpenClaim.holds_of_wide 5 Try.f5 rfl rfl rfl rfl rfl rfl rfl ⟨rfl, rfl, rfl, rfl, rfl⟩ rfl rfl rfl rfl rfl (by kernel_rfl) Try.func5 (by kernel_rfl)
    (of_decide_eq_true (by kernel_rfl)) (by unfold Func.isWrapper; first | (rw [if_pos (by decide +kernel)]; kernel_rfl) | (rw [if_neg (by decide +kernel)]; exact ⟨rfl, rfl⟩))
    (fun os started H enc _ => lifted os started H enc)

end sneMarks
theorem sneMarks_holds : Rows.SneMarksSaid := sneMarks.over
end Go.Proofs.Ytbdkmppfigennaa
