/-
  what two make of their openings, or that one may not be: code and document say it alike
-/
import Derived.Test.YtpfmilkddapfiaaRows
import Derived.Test.YtpfmilkddapfiaaClnP27
import Derived.Test.YtpfmilkddapfiaaShut
import Derived.Test.YtpfmilkddapfiaaClnQd
import Derived.Test.YtpfmilkddapfiaaClnMn
import Derived.WalkKit
import Derived.ProofKit
import Derived.ShutString
import Derived.ChangeOld
import Derived.Below
import Derived.IntWalk
namespace Go.Proofs.Ytpfmilkddapfiaa
namespace openMeets
open Go.ChangeShapes Go.WideShapes Go.ChangeAt Go.RowKit
open Go.ChangeMaps (open_string shut_string)
set_option linter.unusedVariables false

theorem own : ownKnob Try.prog.godebug = none := by kernel_rfl
theorem laidOut : laidOutB Try.prog = true := by kernel_rfl

open Go.Cln in
theorem walk (W : World) (a0_0 : Int) (w0_0 : (Lit.int .u32 a0_0).wf = true) (a0_1 : Int) (w0_1 : (Lit.int .u16 a0_1).wf = true) (a0_2 : Int) (w0_2 : (Lit.int .u32 a0_2).wf = true) (a0_3 : Option Addr) (n0_3 c0_3 : Nat) (s0_3 : (a0_3 = none ∧ n0_3 = 0 ∧ c0_3 = 0) ∨ ∃ b o, a0_3 = some ⟨b, o, none⟩ ∧ n0_3 ≤ c0_3 ∧ (c0_3 : Int) ≤ 9223372036854775807) (z0 : ∀ (j : Nat) (q : FC), ob.OPEN[j]? = some q → ∃ u : Value, (Value.agg #[.int .u32 a0_0, .int .u16 a0_1, .int .u32 a0_2, .slice a0_3 n0_3 c0_3]).cells.toList[j]? = some u ∧ FCv W 8 q u) (a1_0 : Int) (w1_0 : (Lit.int .u32 a1_0).wf = true) (a1_1 : Int) (w1_1 : (Lit.int .u16 a1_1).wf = true) (a1_2 : Int) (w1_2 : (Lit.int .u32 a1_2).wf = true) (a1_3 : Option Addr) (n1_3 c1_3 : Nat) (s1_3 : (a1_3 = none ∧ n1_3 = 0 ∧ c1_3 = 0) ∨ ∃ b o, a1_3 = some ⟨b, o, none⟩ ∧ n1_3 ≤ c1_3 ∧ (c1_3 : Int) ≤ 9223372036854775807) (z1 : ∀ (j : Nat) (q : FC), ob.OPEN[j]? = some q → ∃ u : Value, (Value.agg #[.int .u32 a1_0, .int .u16 a1_1, .int .u32 a1_2, .slice a1_3 n1_3 c1_3]).cells.toList[j]? = some u ∧ FCv W 8 q u) :
    Calls Try.prog 5 #[.agg #[.int .u32 a0_0, .int .u16 a0_1, .int .u32 a0_2, .slice a0_3 n0_3 c0_3], .agg #[.int .u32 a1_0, .int .u16 a1_1, .int .u32 a1_2, .slice a1_3 n1_3 c1_3]] W fun e w' => e = .returned (.bool true) ∧ Below W.heap.size W w' :=
  ob.lawMW z0 z1

set_option maxRecDepth 100000 in
theorem lifted (os : Os) (started : os.Started) (H : Type) (enc : TypeId × Value → H) :
    ReturnsInHanded {} Try.checked os 5 .any (Rows.openMeetsSpec.pre6 enc Try.prog Try.f5 Rows.openMeetsRow.domain false) (Rows.openMeetsSpec.post enc Try.prog Try.f5 false true false false) := by
  refine returnsInHanded_of_change (C := Try.checked) own started (by kernel_rfl) Try.func5
    (ChangeSpec.witness6 (enc := enc) (C := Try.checked) false ⟨#[], #[.agg #[.int .u32 0, .int .u16 0, .int .u32 0, .slice none 0 0], .agg #[.int .u32 0, .int .u16 0, .int .u32 0, .slice none 0 0]], []⟩ 8 (by kernel_rfl) (by kernel_rfl) (by kernel_rfl) (by kernel_rfl)) ?_
  intro W base args ds gs before hval0 hW hcnd _
  have hval : ∀ (j : Nat) t v, Try.f5.params[j]? = some t → args[j]? = some v → Value.okWide Try.prog W .any base t v := hval0
  have hW' := hW
  obtain ⟨p, q, hA0, hV, rfl, hfz, hnd⟩ := hW
  have hA : DataW.TrodAll enc Try.prog W 0 (fun _ => true) true Try.f5.params.toList args.toList ds p := hA0
  rw [Try.params5] at hA hval
  obtain ⟨v0, vs0, d0, ds0, p0, q0, hargs, rfl, rfl, h0, r0⟩ := trodAll_cons hA
  obtain ⟨v1, vs1, d1, ds1, p1, q1, rfl, rfl, rfl, h1, r1⟩ := trodAll_cons r0
  obtain ⟨rfl, rfl, rfl⟩ := trodAll_nil r1
  obtain rfl : args = #[v0, v1] := by cases args; simp_all
  obtain ⟨rfl, rfl⟩ := trodVars_none hV
  have k0 := h0
  have lt0 : ∀ x ∈ p0, x.block < W.heap.size := by obtain ⟨m, hm⟩ := k0; exact DataW.trod_lt m _ _ _ hm
  have k1 := h1
  have lt1 : ∀ x ∈ p1, x.block < W.heap.size := by obtain ⟨m, hm⟩ := k1; exact DataW.trod_lt m _ _ _ hm
  obtain ⟨l0, rfl, hl0, hc0⟩ := Go.Cln.open_agg (ts := [22, 23, 22, 24]) (by kernel_rfl) (by kernel_rfl) (by kernel_rfl) (hval 0 26 v0 rfl rfl)
  obtain ⟨x0_0, r0_0, rfl, hm0_0⟩ := Go.Cln.uncons hl0
  obtain ⟨x0_1, r0_1, rfl, hm0_1⟩ := Go.Cln.uncons hm0_0
  obtain ⟨x0_2, r0_2, rfl, hm0_2⟩ := Go.Cln.uncons hm0_1
  obtain ⟨x0_3, r0_3, rfl, hm0_3⟩ := Go.Cln.uncons hm0_2
  obtain rfl := Go.Cln.unnil hm0_3
  obtain ⟨a0_0, rfl, w0_0⟩ := Go.Cln.cell_int Try.underlying22 (hc0 0 _ _ rfl rfl)
  obtain ⟨a0_1, rfl, w0_1⟩ := Go.Cln.cell_int Try.underlying23 (hc0 1 _ _ rfl rfl)
  obtain ⟨a0_2, rfl, w0_2⟩ := Go.Cln.cell_int Try.underlying22 (hc0 2 _ _ rfl rfl)
  obtain ⟨a0_3, n0_3, c0_3, rfl, s0_3⟩ := Go.Cln.cell_slice Try.underlying24 (hc0 3 _ _ rfl rfl)
  have z0 := Go.Cln.open_deep (n := 8) (l := ob.OPEN) (by kernel_rfl) h0
  obtain ⟨l1, rfl, hl1, hc1⟩ := Go.Cln.open_agg (ts := [22, 23, 22, 24]) (by kernel_rfl) (by kernel_rfl) (by kernel_rfl) (hval 1 26 v1 rfl rfl)
  obtain ⟨x1_0, r1_0, rfl, hm1_0⟩ := Go.Cln.uncons hl1
  obtain ⟨x1_1, r1_1, rfl, hm1_1⟩ := Go.Cln.uncons hm1_0
  obtain ⟨x1_2, r1_2, rfl, hm1_2⟩ := Go.Cln.uncons hm1_1
  obtain ⟨x1_3, r1_3, rfl, hm1_3⟩ := Go.Cln.uncons hm1_2
  obtain rfl := Go.Cln.unnil hm1_3
  obtain ⟨a1_0, rfl, w1_0⟩ := Go.Cln.cell_int Try.underlying22 (hc1 0 _ _ rfl rfl)
  obtain ⟨a1_1, rfl, w1_1⟩ := Go.Cln.cell_int Try.underlying23 (hc1 1 _ _ rfl rfl)
  obtain ⟨a1_2, rfl, w1_2⟩ := Go.Cln.cell_int Try.underlying22 (hc1 2 _ _ rfl rfl)
  obtain ⟨a1_3, n1_3, c1_3, rfl, s1_3⟩ := Go.Cln.cell_slice Try.underlying24 (hc1 3 _ _ rfl rfl)
  have z1 := Go.Cln.open_deep (n := 8) (l := ob.OPEN) (by kernel_rfl) h1
  clear hA0 hval0
  refine (walk W a0_0 w0_0 a0_1 w0_1 a0_2 w0_2 a0_3 n0_3 c0_3 s0_3 z0 a1_0 w1_0 a1_1 w1_1 a1_2 w1_2 a1_3 n1_3 c1_3 s1_3 z1).mono fun e W' ⟨he, bel⟩ => ?_
  subst he
  exact ⟨_, rfl, _, _, _, [], _, [], hW', trodAll_mk1 (shut_bool Try.underlying4 _), (trodAll_cons_mk (Below.trod laidOut (by kernel_rfl) (of_decide_eq_true (by kernel_rfl)) k0 bel lt0) (trodAll_cons_mk (Below.trod laidOut (by kernel_rfl) (of_decide_eq_true (by kernel_rfl)) k1 bel lt1) trodAll_mk0)), rfl, bel.frame _, fun h => by cases h⟩

theorem over : Rows.openMeetsRow.holds Try.pinned (OpenSpec.ofChange Rows.openMeetsSpec) :=
  OpenClaim.holds_of_wide 5 Try.f5 rfl rfl rfl rfl rfl rfl rfl ⟨rfl, rfl, rfl, rfl, rfl⟩ rfl rfl rfl rfl rfl (by kernel_rfl) Try.func5 (by kernel_rfl)
    (of_decide_eq_true (by kernel_rfl)) (by unfold Func.isWrapper; first | (rw [if_pos (by decide +kernel)]; kernel_rfl) | (rw [if_neg (by decide +kernel)]; exact ⟨rfl, rfl⟩))
    (fun os started H enc _ => lifted os started H enc)

end openMeets
theorem openMeets_holds : Rows.OpenMeetsSaid := openMeets.over
end Go.Proofs.Ytpfmilkddapfiaa
