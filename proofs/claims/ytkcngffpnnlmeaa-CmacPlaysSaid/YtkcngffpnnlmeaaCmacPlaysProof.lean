/-
  two tags under way, of two keys, call by call, are as the document has them, whatever the keys and the calls
-/
import Derived.Test.YtkcngffpnnlmeaaRows
import Derived.Test.YtkcngffpnnlmeaaClnP27
import Derived.Test.YtkcngffpnnlmeaaShut
import Derived.Test.YtkcngffpnnlmeaaOpen
import Derived.Test.YtkcngffpnnlmeaaClnQd
import Derived.Test.YtkcngffpnnlmeaaClnPw
import Derived.WalkKit
import Derived.ProofKit
import Derived.ShutString
import Derived.ChangeOld
import Derived.Below
import Derived.IntWalk
namespace Go.Proofs.Ytkcngffpnnlmeaa
namespace cmacPlays
open Go.ChangeShapes Go.WideShapes Go.ChangeAt Go.RowKit
open Go.ChangeMaps (open_string shut_string)
set_option linter.unusedVariables false

theorem own : ownKnob Try.prog.godebug = none := by kernel_rfl
theorem laidOut : laidOutB Try.prog = true := by kernel_rfl

open Go.Cln in
theorem walk (W : World) (g0 : Nat → Int) (w0 : ∀ j, j < 16 → (Lit.int .u8 (g0 j)).wf = true) (g1 : Nat → Int) (w1 : ∀ j, j < 16 → (Lit.int .u8 (g1 j)).wf = true)
    (a2 : Option Addr) (n2 c2 : Nat) (s2 : (a2 = none ∧ n2 = 0 ∧ c2 = 0) ∨ ∃ b o, a2 = some ⟨b, o, none⟩ ∧ n2 ≤ c2 ∧ (c2 : Int) ≤ 9223372036854775807)
    (z2 : n2 = 0 ∨ ∃ b o, a2 = some ⟨b, o, none⟩ ∧ (0 < n2 → (Acts.of W b o).At W b o n2 ∧ (Acts.of W b o).Ok n2)) :
    Calls Try.prog 6 #[.agg (rowV .u8 16 g0).toArray, .agg (rowV .u8 16 g1).toArray, .slice a2 n2 c2] W fun e w' => e = .returned (.bool true) ∧ Below W.heap.size W w' := po.cmacPlays W g0 w0 g1 w1 a2 n2 c2 s2 z2

set_option maxRecDepth 100000 in
theorem lifted (os : Os) (started : os.Started) (H : Type) (enc : TypeId × Value → H) :
    ReturnsInHanded {} Try.checked os 6 .any (Rows.cmacPlaysSpec.pre6 enc Try.prog Try.f6 Rows.cmacPlaysRow.domain false) (Rows.cmacPlaysSpec.post enc Try.prog Try.f6 false true false false) := by
  refine returnsInHanded_of_change (C := Try.checked) own started (by kernel_rfl) Try.func6
    (ChangeSpec.witness6 (enc := enc) (C := Try.checked) false ⟨#[], #[.agg #[.int .u8 0, .int .u8 0, .int .u8 0, .int .u8 0, .int .u8 0, .int .u8 0, .int .u8 0, .int .u8 0, .int .u8 0, .int .u8 0, .int .u8 0, .int .u8 0, .int .u8 0, .int .u8 0, .int .u8 0, .int .u8 0], .agg #[.int .u8 0, .int .u8 0, .int .u8 0, .int .u8 0, .int .u8 0, .int .u8 0, .int .u8 0, .int .u8 0, .int .u8 0, .int .u8 0, .int .u8 0, .int .u8 0, .int .u8 0, .int .u8 0, .int .u8 0, .int .u8 0], .slice none 0 0], []⟩ 8 (by kernel_rfl) (by kernel_rfl) (by kernel_rfl) (by kernel_rfl)) ?_
  intro W base args ds gs before hval0 hW hcnd _
  have hval : ∀ (j : Nat) t v, Try.f6.params[j]? = some t → args[j]? = some v → Value.okWide Try.prog W .any base t v := hval0
  have hW' := hW
  obtain ⟨p, q, hA0, hV, rfl, hfz, hnd⟩ := hW
  have hA : DataW.TrodAll enc Try.prog W 0 (fun _ => true) true Try.f6.params.toList args.toList ds p := hA0
  rw [Try.params6] at hA hval
  obtain ⟨v0, vs0, d0, ds0, p0, q0, hargs, rfl, rfl, h0, r0⟩ := trodAll_cons hA
  obtain ⟨v1, vs1, d1, ds1, p1, q1, rfl, rfl, rfl, h1, r1⟩ := trodAll_cons r0
  obtain ⟨v2, vs2, d2, ds2, p2, q2, rfl, rfl, rfl, h2, r2⟩ := trodAll_cons r1
  obtain ⟨rfl, rfl, rfl⟩ := trodAll_nil r2
  obtain rfl : args = #[v0, v1, v2] := by cases args; simp_all
  obtain ⟨rfl, rfl⟩ := trodVars_none hV
  have k0 := h0
  have lt0 : ∀ x ∈ p0, x.block < W.heap.size := by obtain ⟨m, hm⟩ := k0; exact DataW.trod_lt m _ _ _ hm
  have k1 := h1
  have lt1 : ∀ x ∈ p1, x.block < W.heap.size := by obtain ⟨m, hm⟩ := k1; exact DataW.trod_lt m _ _ _ hm
  have k2 := h2
  have lt2 : ∀ x ∈ p2, x.block < W.heap.size := by obtain ⟨m, hm⟩ := k2; exact DataW.trod_lt m _ _ _ hm
  obtain ⟨a0, rfl, w0⟩ := Go.Cln.open_row (n := 16) (u := 5) (k := .u8) (by kernel_rfl) (by kernel_rfl) (by kernel_rfl) Try.underlying5 (hval 0 25 v0 rfl rfl)
  obtain ⟨a1, rfl, w1⟩ := Go.Cln.open_row (n := 16) (u := 5) (k := .u8) (by kernel_rfl) (by kernel_rfl) (by kernel_rfl) Try.underlying5 (hval 1 25 v1 rfl rfl)
  obtain ⟨a2, n2, c2, rfl, s2⟩ := Go.Cln.open_slice Try.underlying43 (hval 2 43 v2 rfl rfl)
  obtain ⟨_, _, _, qq2, z2⟩ := Go.Cln.open_acts (e2 := 5) Try.underlying43 Try.underlying51 (by kernel_rfl) (by kernel_rfl) (by kernel_rfl) (by kernel_rfl) (by kernel_rfl) (by kernel_rfl) (by kernel_rfl) (by kernel_rfl) (by kernel_rfl) (by kernel_rfl) (by kernel_rfl) (by kernel_rfl) (hval 2 43 _ rfl rfl) h2
  cases qq2
  clear hA0 hval0
  refine (walk W a0 w0 a1 w1 a2 n2 c2 s2 z2).mono fun e W' ⟨he, bel⟩ => ?_
  subst he
  exact ⟨_, rfl, _, _, _, [], _, [], hW', trodAll_mk1 (shut_bool Try.underlying4 _), (trodAll_cons_mk (Below.trod laidOut (by kernel_rfl) (of_decide_eq_true (by kernel_rfl)) k0 bel lt0) (trodAll_cons_mk (Below.trod laidOut (by kernel_rfl) (of_decide_eq_true (by kernel_rfl)) k1 bel lt1) (trodAll_cons_mk (Below.trod laidOut (by kernel_rfl) (of_decide_eq_true (by kernel_rfl)) k2 bel lt2) trodAll_mk0))), rfl, bel.frame _, fun h => by cases h⟩

theorem over : Rows.cmacPlaysRow.holds Try.pinned (OpenSpec.ofChange Rows.cmacPlaysSpec) :=
  OpenClaim.holds_of_wide 6 Try.f6 rfl rfl rfl rfl rfl rfl rfl ⟨rfl, rfl, rfl, rfl, rfl⟩ rfl rfl rfl rfl rfl (by kernel_rfl) Try.func6 (by kernel_rfl)
    (of_decide_eq_true (by kernel_rfl)) (by unfold Func.isWrapper; first | (rw [if_pos (by decide +kernel)]; kernel_rfl) | (rw [if_neg (by decide +kernel)]; exact ⟨rfl, rfl⟩))
    (fun os started H enc _ => lifted os started H enc)

end cmacPlays
theorem cmacPlays_holds : Rows.CmacPlaysSaid := cmacPlays.over
end Go.Proofs.Ytkcngffpnnlmeaa
