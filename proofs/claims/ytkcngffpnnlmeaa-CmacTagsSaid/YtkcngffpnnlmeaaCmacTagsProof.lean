/-
  For every key and every message, of at most 200 bytes each, the tag and the short tag are the ones that the document makes, or there are none where the key is not of 16 bytes, and both stay as they were.
-/
import Derived.Test.YtkcngffpnnlmeaaRows
import Derived.Test.YtkcngffpnnlmeaaClnP27
import Derived.Test.YtkcngffpnnlmeaaShut
import Derived.Test.YtkcngffpnnlmeaaOpen
import Derived.Test.YtkcngffpnnlmeaaClnQc
import Derived.Test.YtkcngffpnnlmeaaClnEu
import Derived.WalkKit
import Derived.ProofKit
import Derived.ShutString
import Derived.ChangeOld
import Derived.Below
import Derived.IntWalk
namespace Go.Proofs.Ytkcngffpnnlmeaa
namespace cmacTags
open Go.ChangeShapes Go.WideShapes Go.ChangeAt Go.RowKit
open Go.ChangeMaps (open_string shut_string)
set_option linter.unusedVariables false

theorem own : ownKnob Try.prog.godebug = none := by kernel_rfl
theorem laidOut : laidOutB Try.prog = true := by kernel_rfl

open Go.Cln in
theorem walk (W : World) (a0 : Option Addr) (n0 c0 : Nat) (s0 : (a0 = none ∧ n0 = 0 ∧ c0 = 0) ∨ ∃ b o, a0 = some ⟨b, o, none⟩ ∧ n0 ≤ c0 ∧ (c0 : Int) ≤ 9223372036854775807)
    (z0 : n0 = 0 ∨ ∃ (b o : Nat) (L : List Int), a0 = some ⟨b, o, none⟩ ∧ L.length = n0 ∧ (∀ x ∈ L, (Lit.int .u8 x).wf = true) ∧ HasCells W b o (L.map (Value.int .u8)))
    (a1 : Option Addr) (n1 c1 : Nat) (s1 : (a1 = none ∧ n1 = 0 ∧ c1 = 0) ∨ ∃ b o, a1 = some ⟨b, o, none⟩ ∧ n1 ≤ c1 ∧ (c1 : Int) ≤ 9223372036854775807)
    (z1 : n1 = 0 ∨ ∃ (b o : Nat) (L : List Int), a1 = some ⟨b, o, none⟩ ∧ L.length = n1 ∧ (∀ x ∈ L, (Lit.int .u8 x).wf = true) ∧ HasCells W b o (L.map (Value.int .u8))) :
    Calls Try.prog 4 #[.slice a0 n0 c0, .slice a1 n1 c1] W fun e w' => e = .returned (.bool true) ∧ Below W.heap.size W w' := ae.cmacTags W a0 n0 c0 s0 z0 a1 n1 c1 s1 z1

set_option maxRecDepth 100000 in
theorem lifted (os : Os) (started : os.Started) (H : Type) (enc : TypeId × Value → H) :
    ReturnsInHanded {} Try.checked os 4 .any (Rows.cmacTagsSpec.pre6 enc Try.prog Try.f4 Rows.cmacTagsRow.domain false) (Rows.cmacTagsSpec.post enc Try.prog Try.f4 false true false false) := by
  refine returnsInHanded_of_change (C := Try.checked) own started (by kernel_rfl) Try.func4
    (ChangeSpec.witness6 (enc := enc) (C := Try.checked) false ⟨#[], #[.slice none 0 0, .slice none 0 0], []⟩ 8 (by kernel_rfl) (by kernel_rfl) (by kernel_rfl) (by kernel_rfl)) ?_
  intro W base args ds gs before hval0 hW hcnd _
  have hval : ∀ (j : Nat) t v, Try.f4.params[j]? = some t → args[j]? = some v → Value.okWide Try.prog W .any base t v := hval0
  have hW' := hW
  obtain ⟨p, q, hA0, hV, rfl, hfz, hnd⟩ := hW
  have hA : DataW.TrodAll enc Try.prog W 0 (fun _ => true) true Try.f4.params.toList args.toList ds p := hA0
  rw [Try.params4] at hA hval
  obtain ⟨v0, vs0, d0, ds0, p0, q0, hargs, rfl, rfl, h0, r0⟩ := trodAll_cons hA
  obtain ⟨v1, vs1, d1, ds1, p1, q1, rfl, rfl, rfl, h1, r1⟩ := trodAll_cons r0
  obtain ⟨rfl, rfl, rfl⟩ := trodAll_nil r1
  obtain rfl : args = #[v0, v1] := by cases args; simp_all
  obtain ⟨rfl, rfl⟩ := trodVars_none hV
  have k0 := h0
  have lt0 : ∀ x ∈ p0, x.block < W.heap.size := by obtain ⟨m, hm⟩ := k0; exact DataW.trod_lt m _ _ _ hm
  have k1 := h1
  have lt1 : ∀ x ∈ p1, x.block < W.heap.size := by obtain ⟨m, hm⟩ := k1; exact DataW.trod_lt m _ _ _ hm
  obtain ⟨a0, n0, c0, rfl, s0⟩ := Go.Cln.open_slice Try.underlying22 (hval 0 22 v0 rfl rfl)
  have z0 := open_irow Try.underlying22 Try.underlying5 (by kernel_rfl) (hval 0 22 _ rfl rfl) h0
  replace z0 := Go.Cln.crowB z0
  obtain ⟨a1, n1, c1, rfl, s1⟩ := Go.Cln.open_slice Try.underlying22 (hval 1 22 v1 rfl rfl)
  have z1 := open_irow Try.underlying22 Try.underlying5 (by kernel_rfl) (hval 1 22 _ rfl rfl) h1
  replace z1 := Go.Cln.crowB z1
  clear hA0 hval0
  refine (walk W a0 n0 c0 s0 z0 a1 n1 c1 s1 z1).mono fun e W' ⟨he, bel⟩ => ?_
  subst he
  exact ⟨_, rfl, _, _, _, [], _, [], hW', trodAll_mk1 (shut_bool Try.underlying4 _), (trodAll_cons_mk (Below.trod laidOut (by kernel_rfl) (of_decide_eq_true (by kernel_rfl)) k0 bel lt0) (trodAll_cons_mk (Below.trod laidOut (by kernel_rfl) (of_decide_eq_true (by kernel_rfl)) k1 bel lt1) trodAll_mk0)), rfl, bel.frame _, fun h => by cases h⟩

theorem over : Rows.cmacTagsRow.holds Try.pinned (OpenSpec.ofChange Rows.cmacTagsSpec) :=
  OpenClaim.holds_of_wide 4 Try.f4 rfl rfl rfl rfl rfl rfl rfl ⟨rfl, rfl, rfl, rfl, rfl⟩ rfl rfl rfl rfl rfl (by kernel_rfl) Try.func4 (by kernel_rfl)
    (of_decide_eq_true (by kernel_rfl)) (by unfold Func.isWrapper; first | (rw [if_pos (by decide +kernel)]; kernel_rfl) | (rw [if_neg (by decide +kernel)]; exact ⟨rfl, rfl⟩))
    (fun os started H enc _ => lifted os started H enc)

end cmacTags
theorem cmacTags_holds : Rows.CmacTagsSaid := cmacTags.over
end Go.Proofs.Ytkcngffpnnlmeaa
