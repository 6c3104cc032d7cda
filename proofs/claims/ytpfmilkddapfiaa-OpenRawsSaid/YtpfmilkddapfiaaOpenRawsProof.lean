/-
  an opening laid down as bytes, or why there are none: code and document say it alike, and it stays as it is
-/
import Derived.Test.YtpfmilkddapfiaaRows
import Derived.Test.YtpfmilkddapfiaaClnP27
import Derived.Test.YtpfmilkddapfiaaShut
import Derived.Test.YtpfmilkddapfiaaClnQd
import Derived.Test.YtpfmilkddapfiaaClnMo
import Derived.WalkKit
import Derived.ProofKit
import Derived.ShutString
import Derived.ChangeOld
import Derived.Below
import Derived.IntWalk
namespace Go.Proofs.Ytpfmilkddapfiaa
namespace openRaws
open Go.ChangeShapes Go.WideShapes Go.ChangeAt Go.RowKit
open Go.ChangeMaps (open_string shut_string)
set_option linter.unusedVariables false

theorem own : ownKnob Try.prog.godebug = none := by kernel_rfl
theorem laidOut : laidOutB Try.prog = true := by kernel_rfl

open Go.Cln in
theorem walk (W : World) (a0_0 : Int) (w0_0 : (Lit.int .u32 a0_0).wf = true) (a0_1 : Int) (w0_1 : (Lit.int .u16 a0_1).wf = true) (a0_2 : Int) (w0_2 : (Lit.int .u32 a0_2).wf = true) (a0_3 : Option Addr) (n0_3 c0_3 : Nat) (s0_3 : (a0_3 = none ∧ n0_3 = 0 ∧ c0_3 = 0) ∨ ∃ b o, a0_3 = some ⟨b, o, none⟩ ∧ n0_3 ≤ c0_3 ∧ (c0_3 : Int) ≤ 9223372036854775807) (z0 : ∀ (j : Nat) (q : FC), ob.OPEN[j]? = some q → ∃ u : Value, (Value.agg #[.int .u32 a0_0, .int .u16 a0_1, .int .u32 a0_2, .slice a0_3 n0_3 c0_3]).cells.toList[j]? = some u ∧ FCv W 8 q u) :
    Calls Try.prog 3 #[.agg #[.int .u32 a0_0, .int .u16 a0_1, .int .u32 a0_2, .slice a0_3 n0_3 c0_3]] W fun e w' => e = .returned (.bool true) ∧ Below W.heap.size W w' :=
  ob.lawRW z0

set_option maxRecDepth 100000 in
theorem lifted (os : Os) (started : os.Started) (H : Type) (enc : TypeId × Value → H) :
    ReturnsInHanded {} Try.checked os 3 .any (Rows.openRawsSpec.pre6 enc Try.prog Try.f3 Rows.openRawsRow.domain false) (Rows.openRawsSpec.post enc Try.prog Try.f3 false true false false) := by
  refine returnsInHanded_of_change (C := Try.checked) own started (by kernel_rfl) Try.func3
    (ChangeSpec.witness6 (enc := enc) (C := Try.checked) false ⟨#[], #[.agg #[.int .u32 0, .int .u16 0, .int .u32 0, .slice none 0 0]], []⟩ 8 (by kernel_rfl) (by kernel_rfl) (by kernel_rfl) (by kernel_rfl)) ?_
  intro W base args ds gs before hval0 hW hcnd _
  have hval : ∀ (j : Nat) t v, Try.f3.params[j]? = some t → args[j]? = some v → Value.okWide Try.prog W .any base t v := hval0
  have hW' := hW
  obtain ⟨p, q, hA0, hV, rfl, hfz, hnd⟩ := hW
  have hA : DataW.TrodAll enc Try.prog W 0 (fun _ => true) true Try.f3.params.toList args.toList ds p := hA0
  rw [Try.params3] at hA hval
  obtain ⟨v0, vs0, d0, ds0, p0, q0, hargs, rfl, rfl, h0, r0⟩ := trodAll_cons hA
  obtain ⟨rfl, rfl, rfl⟩ := trodAll_nil r0
  obtain rfl : args = #[v0] := by cases args; simp_all
  obtain ⟨rfl, rfl⟩ := trodVars_none hV
  have k0 := h0
  have lt0 : ∀ x ∈ p0, x.block < W.heap.size := by obtain ⟨m, hm⟩ := k0; exact DataW.trod_lt m _ _ _ hm
  obtain ⟨l0, rfl, hl0, hc0⟩ := Go.Cln.open_agg (ts := [22, 23, 22, 24]) (by kernel_rfl) (by kernel_rfl) (by kernel_rfl) (hval 0 26 v0 rfl rfl)
  obtain ⟨x0_0, r0_0, rfl, hm0_0⟩ := Go.Cln.uncons hl0
  obtain ⟨x0_1, r0_1, rfl, hm0_1⟩ := Go.Cln.uncons hm0_0
  obtain ⟨x0_2, r0_2, rfl, hm0_2⟩ := Go.Cln.uncons hm0_1
  obtain ⟨x0_3, r0_3, rfl, hm0_3⟩ := Go.Cln.uncons hm0_2
  obtain rfl := Go.Cln.unnil hm0_3
  obtain ⟨a0_0, rfl, w0_0⟩ := Go.Cln.cell_int Try.underlying22 (hc0 0 _ _ rfl rfl)
  obtain ⟨a0_1, rfl, w0_1⟩ := Go.Cln.cell_int Try.underlying23 (hc0 1 _ _ rfl rfl)
  obtain ⟨a0_2, rfl, w0_2⟩ := Go.Cln.cell_int Try.underlying22 (hc0 2 _ _ rfl rfl)
  obtain ⟨a0_3, n0_3, c0_3, rfl, s0_3⟩ := Go.Cln.cell_slice Try.underlying24 (hc0 3 _ _ rfl rfl)
  have z0 := Go.Cln.open_deep (n := 8) (l := ob.OPEN) (by kernel_rfl) h0
  clear hA0 hval0
  refine (walk W a0_0 w0_0 a0_1 w0_1 a0_2 w0_2 a0_3 n0_3 c0_3 s0_3 z0).mono fun e W' ⟨he, bel⟩ => ?_
  subst he
  exact ⟨_, rfl, _, _, _, [], _, [], hW', trodAll_mk1 (shut_bool Try.underlying4 _), (trodAll_cons_mk (Below.trod laidOut (by kernel_rfl) (of_decide_eq_true (by kernel_rfl)) k0 bel lt0) trodAll_mk0), rfl, bel.frame _, fun h => by cases h⟩

theorem over : Rows.openRawsRow.holds Try.pinned (OpenSpec.ofChange Rows.openRawsSpec) :=
  OpenClaim.holds_of_wide 3 Try.f3 rfl rfl rfl rfl rfl rfl rfl ⟨rfl, rfl, rfl, rfl, rfl⟩ rfl rfl rfl rfl rfl (by kernel_rfl) Try.func3 (by kernel_rfl)
    (of_decide_eq_true (by kernel_rfl)) (by unfold Func.isWrapper; first | (rw [if_pos (by decide +kernel)]; kernel_rfl) | (rw [if_neg (by decide +kernel)]; exact ⟨rfl, rfl⟩))
    (fun os started H enc _ => lifted os started H enc)

end openRaws
theorem openRaws_holds : Rows.OpenRawsSaid := openRaws.over
end Go.Proofs.Ytpfmilkddapfiaa
