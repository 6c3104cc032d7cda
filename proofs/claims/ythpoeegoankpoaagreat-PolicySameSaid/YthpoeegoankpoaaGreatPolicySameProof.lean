/-
  which policies are the same: code and document say it alike, and a copy of each is the same as itself
-/
import Derived.Test.YthpoeegoankpoaaGreatRows
import Derived.Test.YthpoeegoankpoaaGreatClnP27
import Derived.Test.YthpoeegoankpoaaGreatShut
import Derived.Test.YthpoeegoankpoaaGreatClnQd
import Derived.Test.YthpoeegoankpoaaGreatClnMc
import Derived.WalkKit
import Derived.ProofKit
import Derived.ShutString
import Derived.ChangeOld
import Derived.Below
import Derived.IntWalk
namespace Go.Proofs.YthpoeegoankpoaaGreat
namespace policySame
open Go.ChangeShapes Go.WideShapes Go.ChangeAt Go.RowKit
open Go.ChangeMaps (open_string shut_string)
set_option linter.unusedVariables false

theorem own : ownKnob Tryz.prog.godebug = none := by kernel_rfl
theorem laidOut : laidOutB Tryz.prog = true := by kernel_rfl

open Go.Cln in
theorem walk (W : World) (a0_0 : Option Addr) (n0_0 c0_0 : Nat) (s0_0 : (a0_0 = none ∧ n0_0 = 0 ∧ c0_0 = 0) ∨ ∃ b o, a0_0 = some ⟨b, o, none⟩ ∧ n0_0 ≤ c0_0 ∧ (c0_0 : Int) ≤ 9223372036854775807) (a0_1 : Bool) (z0 : ∀ (j : Nat) (q : FC), ob.POL[j]? = some q → ∃ u : Value, (Value.agg #[.slice a0_0 n0_0 c0_0, .bool a0_1]).cells.toList[j]? = some u ∧ FCv W 8 q u) (a1_0 : Option Addr) (n1_0 c1_0 : Nat) (s1_0 : (a1_0 = none ∧ n1_0 = 0 ∧ c1_0 = 0) ∨ ∃ b o, a1_0 = some ⟨b, o, none⟩ ∧ n1_0 ≤ c1_0 ∧ (c1_0 : Int) ≤ 9223372036854775807) (a1_1 : Bool) (z1 : ∀ (j : Nat) (q : FC), ob.POL[j]? = some q → ∃ u : Value, (Value.agg #[.slice a1_0 n1_0 c1_0, .bool a1_1]).cells.toList[j]? = some u ∧ FCv W 8 q u) :
    Calls Tryz.prog 4 #[.agg #[.slice a0_0 n0_0 c0_0, .bool a0_1], .agg #[.slice a1_0 n1_0 c1_0, .bool a1_1]] W fun e w' => e = .returned (.bool true) ∧ Below W.heap.size W w' :=
  ob.policySame (a := ⟨.slice a0_0 n0_0 c0_0, a0_1⟩) (b := ⟨.slice a1_0 n1_0 c1_0, a1_1⟩) (ob.Typed.of z0) (ob.Typed.of z1)

set_option maxRecDepth 100000 in
theorem lifted (os : Os) (started : os.Started) (H : Type) (enc : TypeId × Value → H) :
    ReturnsInHanded {} Tryz.checked os 4 .any (Rows.policySameSpec.pre6 enc Tryz.prog Tryz.f4 Rows.policySameRow.domain false) (Rows.policySameSpec.post enc Tryz.prog Tryz.f4 false true false false) := by
  refine returnsInHanded_of_change (C := Tryz.checked) own started (by kernel_rfl) Tryz.func4
    (ChangeSpec.witness6 (enc := enc) (C := Tryz.checked) false ⟨#[], #[.agg #[.slice none 0 0, .bool false], .agg #[.slice none 0 0, .bool false]], []⟩ 8 (by kernel_rfl) (by kernel_rfl) (by kernel_rfl) (by kernel_rfl)) ?_
  intro W base args ds gs before hval0 hW hcnd _
  have hval : ∀ (j : Nat) t v, Tryz.f4.params[j]? = some t → args[j]? = some v → Value.okWide Tryz.prog W .any base t v := hval0
  have hW' := hW
  obtain ⟨p, q, hA0, hV, rfl, hfz, hnd⟩ := hW
  have hA : DataW.TrodAll enc Tryz.prog W 0 (fun _ => true) true Tryz.f4.params.toList args.toList ds p := hA0
  rw [Tryz.params4] at hA hval
  obtain ⟨v0, vs0, d0, ds0, p0, q0, hargs, rfl, rfl, h0, r0⟩ := trodAll_cons hA
  obtain ⟨v1, vs1, d1, ds1, p1, q1, rfl, rfl, rfl, h1, r1⟩ := trodAll_cons r0
  obtain ⟨rfl, rfl, rfl⟩ := trodAll_nil r1
  obtain rfl : args = #[v0, v1] := by cases args; simp_all
  obtain ⟨rfl, rfl⟩ := trodVars_none hV
  have k0 := h0
  have lt0 : ∀ x ∈ p0, x.block < W.heap.size := by obtain ⟨m, hm⟩ := k0; exact DataW.trod_lt m _ _ _ hm
  have k1 := h1
  have lt1 : ∀ x ∈ p1, x.block < W.heap.size := by obtain ⟨m, hm⟩ := k1; exact DataW.trod_lt m _ _ _ hm
  obtain ⟨l0, rfl, hl0, hc0⟩ := Go.Cln.open_agg (ts := [27, 4]) (by kernel_rfl) (by kernel_rfl) (by kernel_rfl) (hval 0 29 v0 rfl rfl)
  obtain ⟨x0_0, r0_0, rfl, hm0_0⟩ := Go.Cln.uncons hl0
  obtain ⟨x0_1, r0_1, rfl, hm0_1⟩ := Go.Cln.uncons hm0_0
  obtain rfl := Go.Cln.unnil hm0_1
  obtain ⟨a0_0, n0_0, c0_0, rfl, s0_0⟩ := Go.Cln.cell_slice Tryz.underlying27 (hc0 0 _ _ rfl rfl)
  obtain ⟨a0_1, rfl⟩ := Go.Cln.cell_bool Tryz.underlying4 (hc0 1 _ _ rfl rfl)
  have z0 := Go.Cln.open_deep (n := 8) (l := ob.POL) (by kernel_rfl) h0
  obtain ⟨l1, rfl, hl1, hc1⟩ := Go.Cln.open_agg (ts := [27, 4]) (by kernel_rfl) (by kernel_rfl) (by kernel_rfl) (hval 1 29 v1 rfl rfl)
  obtain ⟨x1_0, r1_0, rfl, hm1_0⟩ := Go.Cln.uncons hl1
  obtain ⟨x1_1, r1_1, rfl, hm1_1⟩ := Go.Cln.uncons hm1_0
  obtain rfl := Go.Cln.unnil hm1_1
  obtain ⟨a1_0, n1_0, c1_0, rfl, s1_0⟩ := Go.Cln.cell_slice Tryz.underlying27 (hc1 0 _ _ rfl rfl)
  obtain ⟨a1_1, rfl⟩ := Go.Cln.cell_bool Tryz.underlying4 (hc1 1 _ _ rfl rfl)
  have z1 := Go.Cln.open_deep (n := 8) (l := ob.POL) (by kernel_rfl) h1
  clear hA0 hval0
  refine (walk W a0_0 n0_0 c0_0 s0_0 a0_1 z0 a1_0 n1_0 c1_0 s1_0 a1_1 z1).mono fun e W' ⟨he, bel⟩ => ?_
  subst he
  exact ⟨_, rfl, _, _, _, [], _, [], hW', trodAll_mk1 (shut_bool Tryz.underlying4 _), (trodAll_cons_mk (Below.trod laidOut (by kernel_rfl) (of_decide_eq_true (by kernel_rfl)) k0 bel lt0) (trodAll_cons_mk (Below.trod laidOut (by kernel_rfl) (of_decide_eq_true (by kernel_rfl)) k1 bel lt1) trodAll_mk0)), rfl, bel.frame _, fun h => by cases h⟩

theorem over : Rows.policySameRow.holds Tryz.pinned (OpenSpec.ofChange Rows.policySameSpec) :=
  OpenClaim.holds_of_wide 4 Tryz.f4 rfl rfl rfl rfl rfl rfl rfl ⟨rfl, rfl, rfl, rfl, rfl⟩ rfl rfl rfl rfl rfl (by kernel_rfl) Tryz.func4 (by kernel_rfl)
    (of_decide_eq_true (by kernel_rfl)) (by unfold Func.isWrapper; first | (rw [if_pos (by decide +kernel)]; kernel_rfl) | (rw [if_neg (by decide +kernel)]; exact ⟨rfl, rfl⟩))
    (fun os started H enc _ => lifted os started H enc)

end policySame
theorem policySame_holds : Rows.PolicySameSaid := policySame.over
end Go.Proofs.YthpoeegoankpoaaGreat
