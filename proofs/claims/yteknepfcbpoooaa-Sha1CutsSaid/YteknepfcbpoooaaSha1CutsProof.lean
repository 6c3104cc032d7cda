/-
  it does not matter how bytes are cut; and the sum is the block function of the first state, block by block
-/
import Derived.Test.YteknepfcbpoooaaRows
import Derived.Test.YteknepfcbpoooaaClnP27
import Derived.Test.YteknepfcbpoooaaShut
import Derived.Test.YteknepfcbpoooaaOpen
import Derived.Test.YteknepfcbpoooaaClnQd
import Derived.Test.YteknepfcbpoooaaClnVd
import Derived.WalkKit
import Derived.ProofKit
import Derived.ShutString
import Derived.ChangeOld
import Derived.Below
import Derived.IntWalk
namespace Go.Proofs.Yteknepfcbpoooaa
namespace sha1Cuts
open Go.ChangeShapes Go.WideShapes Go.ChangeAt Go.RowKit
open Go.ChangeMaps (open_string shut_string)
set_option linter.unusedVariables false

theorem own : ownKnob Try.prog.godebug = none := by kernel_rfl
theorem laidOut : laidOutB Try.prog = true := by kernel_rfl

theorem _root_.Go.Cln.crowF {w : World} {a : Option Addr} {n c : Nat} {k : IntKind}
    (h : ∃ a' n' c', Value.slice a n c = .slice a' n' c' ∧ n' ≤ c' ∧ c' ≤ maxLen ∧ (n' = 0 ∨ ∃ (b o : Nat) (f : Nat → Int), a' = some ⟨b, o, none⟩ ∧ b < w.heap.size ∧ ∀ i, i < n' → w.cell? ⟨b, o + i, none⟩ = some (.int k (f i)) ∧ (Lit.int k (f i)).wf = true)) :
    n = 0 ∨ ∃ (b o : Nat) (f : Nat → Int), a = some ⟨b, o, none⟩ ∧ b < w.heap.size ∧ ∀ i, i < n → w.cell? ⟨b, o + i, none⟩ = some (.int k (f i)) ∧ (Lit.int k (f i)).wf = true := by
  obtain ⟨a', n', c', e, _, _, h⟩ := h
  cases e
  exact h
open Go.Cln in
theorem walk (W : World) (a0 : Option Addr) (n0 c0 : Nat) (s0 : (a0 = none ∧ n0 = 0 ∧ c0 = 0) ∨ ∃ b o, a0 = some ⟨b, o, none⟩ ∧ n0 ≤ c0 ∧ (c0 : Int) ≤ 9223372036854775807)
    (z0 : n0 = 0 ∨ ∃ (b o : Nat) (f : Nat → Int), a0 = some ⟨b, o, none⟩ ∧ b < W.heap.size ∧ ∀ j, j < n0 → W.cell? ⟨b, o + j, none⟩ = some (.int .u8 (f j)) ∧ (Lit.int .u8 (f j)).wf = true)
    (a1 : Option Addr) (n1 c1 : Nat) (s1 : (a1 = none ∧ n1 = 0 ∧ c1 = 0) ∨ ∃ b o, a1 = some ⟨b, o, none⟩ ∧ n1 ≤ c1 ∧ (c1 : Int) ≤ 9223372036854775807)
    (z1 : n1 = 0 ∨ ∃ (b o : Nat) (f : Nat → Int), a1 = some ⟨b, o, none⟩ ∧ b < W.heap.size ∧ ∀ j, j < n1 → W.cell? ⟨b, o + j, none⟩ = some (.int .i64 (f j)) ∧ (Lit.int .i64 (f j)).wf = true) :
    Calls Try.prog 9 #[.slice a0 n0 c0, .slice a1 n1 c1] W fun e w' => e = .returned (.bool true) ∧ Below W.heap.size W w' := sk.sha1Cuts W a0 n0 c0 s0 z0 a1 n1 c1 s1 z1

set_option maxRecDepth 100000 in
theorem lifted (os : Os) (started : os.Started) (H : Type) (enc : TypeId × Value → H) :
    ReturnsInHanded {} Try.checked os 9 .any (Rows.sha1CutsSpec.pre6 enc Try.prog Try.f9 Rows.sha1CutsRow.domain false) (Rows.sha1CutsSpec.post enc Try.prog Try.f9 false true false false) := by
  refine returnsInHanded_of_change (C := Try.checked) own started (by kernel_rfl) Try.func9
    (ChangeSpec.witness6 (enc := enc) (C := Try.checked) false ⟨#[], #[.slice none 0 0, .slice none 0 0], []⟩ 8 (by kernel_rfl) (by kernel_rfl) (by kernel_rfl) (by kernel_rfl)) ?_
  intro W base args ds gs before hval0 hW hcnd _
  have hval : ∀ (j : Nat) t v, Try.f9.params[j]? = some t → args[j]? = some v → Value.okWide Try.prog W .any base t v := hval0
  have hW' := hW
  obtain ⟨p, q, hA0, hV, rfl, hfz, hnd⟩ := hW
  have hA : DataW.TrodAll enc Try.prog W 0 (fun _ => true) true Try.f9.params.toList args.toList ds p := hA0
  rw [Try.params9] at hA hval
  obtain ⟨v0, vs0, d0, ds0, p0, q0, hargs, rfl, rfl, h0, r0⟩ := trodAll_cons hA
  obtain ⟨v1, vs1, d1, ds1, p1, q1, rfl, rfl, rfl, h1, r1⟩ := trodAll_cons r0
  obtain ⟨rfl, rfl, rfl⟩ := trodAll_nil r1
  obtain rfl : args = #[v0, v1] := by cases args; simp_all
  obtain ⟨rfl, rfl⟩ := trodVars_none hV
  have k0 := h0
  have lt0 : ∀ x ∈ p0, x.block < W.heap.size := by obtain ⟨m, hm⟩ := k0; exact DataW.trod_lt m _ _ _ hm
  have k1 := h1
  have lt1 : ∀ x ∈ p1, x.block < W.heap.size := by obtain ⟨m, hm⟩ := k1; exact DataW.trod_lt m _ _ _ hm
  obtain ⟨a0, n0, c0, rfl, s0⟩ := Go.Cln.open_slice Try.underlying22 (hval 0 22 v0 rfl rfl)
  have z0 := open_irow Try.underlying22 Try.underlying5 (by kernel_rfl) (hval 0 22 _ rfl rfl) h0
  replace z0 := Go.Cln.crowF z0
  obtain ⟨a1, n1, c1, rfl, s1⟩ := Go.Cln.open_slice Try.underlying55 (hval 1 55 v1 rfl rfl)
  have z1 := open_irow Try.underlying55 Try.underlying3 (by kernel_rfl) (hval 1 55 _ rfl rfl) h1
  replace z1 := Go.Cln.crowF z1
  clear hA0 hval0
  refine (walk W a0 n0 c0 s0 z0 a1 n1 c1 s1 z1).mono fun e W' ⟨he, bel⟩ => ?_
  subst he
  exact ⟨_, rfl, _, _, _, [], _, [], hW', trodAll_mk1 (shut_bool Try.underlying4 _), (trodAll_cons_mk (Below.trod laidOut (by kernel_rfl) (of_decide_eq_true (by kernel_rfl)) k0 bel lt0) (trodAll_cons_mk (Below.trod laidOut (by kernel_rfl) (of_decide_eq_true (by kernel_rfl)) k1 bel lt1) trodAll_mk0)), rfl, bel.frame _, fun h => by cases h⟩

theorem over : Rows.sha1CutsRow.holds Try.pinned (OpenSpec.ofChange Rows.sha1CutsSpec) :=
  OpenClaim.holds_of_wide 9 Try.f9 rfl rfl rfl rfl rfl rfl rfl ⟨rfl, rfl, rfl, rfl, rfl⟩ rfl rfl rfl rfl rfl (by kernel_rfl) Try.func9 (by kernel_rfl)
    (of_decide_eq_true (by kernel_rfl)) (by unfold Func.isWrapper; first | (rw [if_pos (by decide +kernel)]; kernel_rfl) | (rw [if_neg (by decide +kernel)]; exact ⟨rfl, rfl⟩))
    (fun os started H enc _ => lifted os started H enc)

end sha1Cuts
theorem sha1Cuts_holds : Rows.Sha1CutsSaid := sha1Cuts.over
end Go.Proofs.Yteknepfcbpoooaa
