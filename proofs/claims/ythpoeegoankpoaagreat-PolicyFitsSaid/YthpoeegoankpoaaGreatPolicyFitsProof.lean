/-
  whether a rule fits, and which of a policy does first: code and document say it alike
-/
import Derived.Test.YthpoeegoankpoaaGreatRows
import Derived.Test.YthpoeegoankpoaaGreatClnP27
import Derived.Test.YthpoeegoankpoaaGreatShut
import Derived.Test.YthpoeegoankpoaaGreatClnQd
import Derived.Test.YthpoeegoankpoaaGreatClnMf
import Derived.WalkKit
import Derived.ProofKit
import Derived.ShutString
import Derived.ChangeOld
import Derived.Below
import Derived.IntWalk
namespace Go.Proofs.YthpoeegoankpoaaGreat
namespace policyFits
open Go.ChangeShapes Go.WideShapes Go.ChangeAt Go.RowKit
open Go.ChangeMaps (open_string shut_string)
set_option linter.unusedVariables false

theorem own : ownKnob Tryz.prog.godebug = none := by kernel_rfl
theorem laidOut : laidOutB Tryz.prog = true := by kernel_rfl

open Go.Cln in
theorem walk (W : World) (a0_0 : Int) (w0_0 : (Lit.int .u32 a0_0).wf = true) (a0_1 : Int) (w0_1 : (Lit.int .u8 a0_1).wf = true) (a0_2 : Int) (w0_2 : (Lit.int .u8 a0_2).wf = true) (a0_3 : Int) (w0_3 : (Lit.int .u8 a0_3).wf = true) (a0_4 : Bool) (a0_5 : Int) (w0_5 : (Lit.int .u32 a0_5).wf = true) (a0_6 : Int) (w0_6 : (Lit.int .u32 a0_6).wf = true) (a0_7 : Bool) (a0_8 : Bool) (a0_9 : Bool) (a0_10 : Bool) (a0_11 : Int) (w0_11 : (Lit.int .u32 a0_11).wf = true) (a0_12 : Int) (w0_12 : (Lit.int .u32 a0_12).wf = true) (a0_13 : Int) (w0_13 : (Lit.int .u32 a0_13).wf = true) (a0_14 : Int) (w0_14 : (Lit.int .u8 a0_14).wf = true) (a1_0 : Option Addr) (n1_0 c1_0 : Nat) (s1_0 : (a1_0 = none ∧ n1_0 = 0 ∧ c1_0 = 0) ∨ ∃ b o, a1_0 = some ⟨b, o, none⟩ ∧ n1_0 ≤ c1_0 ∧ (c1_0 : Int) ≤ 9223372036854775807) (a1_1 : Bool) (z1 : ∀ (j : Nat) (q : FC), ob.POL[j]? = some q → ∃ u : Value, (Value.agg #[.slice a1_0 n1_0 c1_0, .bool a1_1]).cells.toList[j]? = some u ∧ FCv W 8 q u) (a2_0 : Int) (w2_0 : (Lit.int .u32 a2_0).wf = true) (a2_1 : Int) (w2_1 : (Lit.int .u8 a2_1).wf = true) (a3_0 : Int) (w3_0 : (Lit.int .u8 a3_0).wf = true) (a3_1 : Option Addr) (n3_1 c3_1 : Nat) (s3_1 : (a3_1 = none ∧ n3_1 = 0 ∧ c3_1 = 0) ∨ ∃ b o, a3_1 = some ⟨b, o, none⟩ ∧ n3_1 ≤ c3_1 ∧ (c3_1 : Int) ≤ 9223372036854775807) (a3_2 : Int) (w3_2 : (Lit.int .u32 a3_2).wf = true) (a3_3 : Bool) (a3_4 : Int) (w3_4 : (Lit.int .u32 a3_4).wf = true) (a3_5 : Bool) (a3_6 : Int) (w3_6 : (Lit.int .u32 a3_6).wf = true) (a3_7 : Option Addr) (n3_7 c3_7 : Nat) (s3_7 : (a3_7 = none ∧ n3_7 = 0 ∧ c3_7 = 0) ∨ ∃ b o, a3_7 = some ⟨b, o, none⟩ ∧ n3_7 ≤ c3_7 ∧ (c3_7 : Int) ≤ 9223372036854775807) (z3 : ∀ (j : Nat) (q : FC), ob.ATT[j]? = some q → ∃ u : Value, (Value.agg #[.int .u8 a3_0, .slice a3_1 n3_1 c3_1, .int .u32 a3_2, .bool a3_3, .int .u32 a3_4, .bool a3_5, .int .u32 a3_6, .slice a3_7 n3_7 c3_7]).cells.toList[j]? = some u ∧ FCv W 8 q u) :
    Calls Tryz.prog 3 #[.agg #[.int .u32 a0_0, .int .u8 a0_1, .int .u8 a0_2, .int .u8 a0_3, .bool a0_4, .int .u32 a0_5, .int .u32 a0_6, .bool a0_7, .bool a0_8, .bool a0_9, .bool a0_10, .int .u32 a0_11, .int .u32 a0_12, .int .u32 a0_13, .int .u8 a0_14], .agg #[.slice a1_0 n1_0 c1_0, .bool a1_1], .agg #[.int .u32 a2_0, .int .u8 a2_1], .agg #[.int .u8 a3_0, .slice a3_1 n3_1 c3_1, .int .u32 a3_2, .bool a3_3, .int .u32 a3_4, .bool a3_5, .int .u32 a3_6, .slice a3_7 n3_7 c3_7]] W fun e w' => e = .returned (.bool true) ∧ Below W.heap.size W w' :=
  ob.lawW (r := ⟨a0_0, a0_1, a0_2, a0_3, a0_4, a0_5, a0_6, a0_7, a0_8, a0_9, a0_10, a0_11, a0_12, a0_13, a0_14⟩) (ob.pv_of w0_0 w0_1) (ob.pv_of w2_0 w2_1) z1 z3

set_option maxRecDepth 100000 in
theorem lifted (os : Os) (started : os.Started) (H : Type) (enc : TypeId × Value → H) :
    ReturnsInHanded {} Tryz.checked os 3 .any (Rows.policyFitsSpec.pre6 enc Tryz.prog Tryz.f3 Rows.policyFitsRow.domain false) (Rows.policyFitsSpec.post enc Tryz.prog Tryz.f3 false true false false) := by
  refine returnsInHanded_of_change (C := Tryz.checked) own started (by kernel_rfl) Tryz.func3
    (ChangeSpec.witness6 (enc := enc) (C := Tryz.checked) false ⟨#[], #[.agg #[.int .u32 0, .int .u8 0, .int .u8 0, .int .u8 0, .bool false, .int .u32 0, .int .u32 0, .bool false, .bool false, .bool false, .bool false, .int .u32 0, .int .u32 0, .int .u32 0, .int .u8 0], .agg #[.slice none 0 0, .bool false], .agg #[.int .u32 0, .int .u8 0], .agg #[.int .u8 0, .slice none 0 0, .int .u32 0, .bool false, .int .u32 0, .bool false, .int .u32 0, .slice none 0 0]], []⟩ 8 (by kernel_rfl) (by kernel_rfl) (by kernel_rfl) (by kernel_rfl)) ?_
  intro W base args ds gs before hval0 hW hcnd _
  have hval : ∀ (j : Nat) t v, Tryz.f3.params[j]? = some t → args[j]? = some v → Value.okWide Tryz.prog W .any base t v := hval0
  have hW' := hW
  obtain ⟨p, q, hA0, hV, rfl, hfz, hnd⟩ := hW
  have hA : DataW.TrodAll enc Tryz.prog W 0 (fun _ => true) true Tryz.f3.params.toList args.toList ds p := hA0
  rw [Tryz.params3] at hA hval
  obtain ⟨v0, vs0, d0, ds0, p0, q0, hargs, rfl, rfl, h0, r0⟩ := trodAll_cons hA
  obtain ⟨v1, vs1, d1, ds1, p1, q1, rfl, rfl, rfl, h1, r1⟩ := trodAll_cons r0
  obtain ⟨v2, vs2, d2, ds2, p2, q2, rfl, rfl, rfl, h2, r2⟩ := trodAll_cons r1
  obtain ⟨v3, vs3, d3, ds3, p3, q3, rfl, rfl, rfl, h3, r3⟩ := trodAll_cons r2
  obtain ⟨rfl, rfl, rfl⟩ := trodAll_nil r3
  obtain rfl : args = #[v0, v1, v2, v3] := by cases args; simp_all
  obtain ⟨rfl, rfl⟩ := trodVars_none hV
  have k0 := h0
  have lt0 : ∀ x ∈ p0, x.block < W.heap.size := by obtain ⟨m, hm⟩ := k0; exact DataW.trod_lt m _ _ _ hm
  have k1 := h1
  have lt1 : ∀ x ∈ p1, x.block < W.heap.size := by obtain ⟨m, hm⟩ := k1; exact DataW.trod_lt m _ _ _ hm
  have k2 := h2
  have lt2 : ∀ x ∈ p2, x.block < W.heap.size := by obtain ⟨m, hm⟩ := k2; exact DataW.trod_lt m _ _ _ hm
  have k3 := h3
  have lt3 : ∀ x ∈ p3, x.block < W.heap.size := by obtain ⟨m, hm⟩ := k3; exact DataW.trod_lt m _ _ _ hm
  obtain ⟨l0, rfl, hl0, hc0⟩ := Go.Cln.open_agg (ts := [22, 5, 5, 5, 4, 22, 22, 4, 4, 4, 4, 22, 22, 22, 5]) (by kernel_rfl) (by kernel_rfl) (by kernel_rfl) (hval 0 26 v0 rfl rfl)
  obtain ⟨x0_0, r0_0, rfl, hm0_0⟩ := Go.Cln.uncons hl0
  obtain ⟨x0_1, r0_1, rfl, hm0_1⟩ := Go.Cln.uncons hm0_0
  obtain ⟨x0_2, r0_2, rfl, hm0_2⟩ := Go.Cln.uncons hm0_1
  obtain ⟨x0_3, r0_3, rfl, hm0_3⟩ := Go.Cln.uncons hm0_2
  obtain ⟨x0_4, r0_4, rfl, hm0_4⟩ := Go.Cln.uncons hm0_3
  obtain ⟨x0_5, r0_5, rfl, hm0_5⟩ := Go.Cln.uncons hm0_4
  obtain ⟨x0_6, r0_6, rfl, hm0_6⟩ := Go.Cln.uncons hm0_5
  obtain ⟨x0_7, r0_7, rfl, hm0_7⟩ := Go.Cln.uncons hm0_6
  obtain ⟨x0_8, r0_8, rfl, hm0_8⟩ := Go.Cln.uncons hm0_7
  obtain ⟨x0_9, r0_9, rfl, hm0_9⟩ := Go.Cln.uncons hm0_8
  obtain ⟨x0_10, r0_10, rfl, hm0_10⟩ := Go.Cln.uncons hm0_9
  obtain ⟨x0_11, r0_11, rfl, hm0_11⟩ := Go.Cln.uncons hm0_10
  obtain ⟨x0_12, r0_12, rfl, hm0_12⟩ := Go.Cln.uncons hm0_11
  obtain ⟨x0_13, r0_13, rfl, hm0_13⟩ := Go.Cln.uncons hm0_12
  obtain ⟨x0_14, r0_14, rfl, hm0_14⟩ := Go.Cln.uncons hm0_13
  obtain rfl := Go.Cln.unnil hm0_14
  obtain ⟨a0_0, rfl, w0_0⟩ := Go.Cln.cell_int Tryz.underlying22 (hc0 0 _ _ rfl rfl)
  obtain ⟨a0_1, rfl, w0_1⟩ := Go.Cln.cell_int Tryz.underlying5 (hc0 1 _ _ rfl rfl)
  obtain ⟨a0_2, rfl, w0_2⟩ := Go.Cln.cell_int Tryz.underlying5 (hc0 2 _ _ rfl rfl)
  obtain ⟨a0_3, rfl, w0_3⟩ := Go.Cln.cell_int Tryz.underlying5 (hc0 3 _ _ rfl rfl)
  obtain ⟨a0_4, rfl⟩ := Go.Cln.cell_bool Tryz.underlying4 (hc0 4 _ _ rfl rfl)
  obtain ⟨a0_5, rfl, w0_5⟩ := Go.Cln.cell_int Tryz.underlying22 (hc0 5 _ _ rfl rfl)
  obtain ⟨a0_6, rfl, w0_6⟩ := Go.Cln.cell_int Tryz.underlying22 (hc0 6 _ _ rfl rfl)
  obtain ⟨a0_7, rfl⟩ := Go.Cln.cell_bool Tryz.underlying4 (hc0 7 _ _ rfl rfl)
  obtain ⟨a0_8, rfl⟩ := Go.Cln.cell_bool Tryz.underlying4 (hc0 8 _ _ rfl rfl)
  obtain ⟨a0_9, rfl⟩ := Go.Cln.cell_bool Tryz.underlying4 (hc0 9 _ _ rfl rfl)
  obtain ⟨a0_10, rfl⟩ := Go.Cln.cell_bool Tryz.underlying4 (hc0 10 _ _ rfl rfl)
  obtain ⟨a0_11, rfl, w0_11⟩ := Go.Cln.cell_int Tryz.underlying22 (hc0 11 _ _ rfl rfl)
  obtain ⟨a0_12, rfl, w0_12⟩ := Go.Cln.cell_int Tryz.underlying22 (hc0 12 _ _ rfl rfl)
  obtain ⟨a0_13, rfl, w0_13⟩ := Go.Cln.cell_int Tryz.underlying22 (hc0 13 _ _ rfl rfl)
  obtain ⟨a0_14, rfl, w0_14⟩ := Go.Cln.cell_int Tryz.underlying5 (hc0 14 _ _ rfl rfl)
  obtain ⟨l1, rfl, hl1, hc1⟩ := Go.Cln.open_agg (ts := [27, 4]) (by kernel_rfl) (by kernel_rfl) (by kernel_rfl) (hval 1 29 v1 rfl rfl)
  obtain ⟨x1_0, r1_0, rfl, hm1_0⟩ := Go.Cln.uncons hl1
  obtain ⟨x1_1, r1_1, rfl, hm1_1⟩ := Go.Cln.uncons hm1_0
  obtain rfl := Go.Cln.unnil hm1_1
  obtain ⟨a1_0, n1_0, c1_0, rfl, s1_0⟩ := Go.Cln.cell_slice Tryz.underlying27 (hc1 0 _ _ rfl rfl)
  obtain ⟨a1_1, rfl⟩ := Go.Cln.cell_bool Tryz.underlying4 (hc1 1 _ _ rfl rfl)
  have z1 := Go.Cln.open_deep (n := 8) (l := ob.POL) (by kernel_rfl) h1
  obtain ⟨l2, rfl, hl2, hc2⟩ := Go.Cln.open_agg (ts := [22, 5]) (by kernel_rfl) (by kernel_rfl) (by kernel_rfl) (hval 2 24 v2 rfl rfl)
  obtain ⟨x2_0, r2_0, rfl, hm2_0⟩ := Go.Cln.uncons hl2
  obtain ⟨x2_1, r2_1, rfl, hm2_1⟩ := Go.Cln.uncons hm2_0
  obtain rfl := Go.Cln.unnil hm2_1
  obtain ⟨a2_0, rfl, w2_0⟩ := Go.Cln.cell_int Tryz.underlying22 (hc2 0 _ _ rfl rfl)
  obtain ⟨a2_1, rfl, w2_1⟩ := Go.Cln.cell_int Tryz.underlying5 (hc2 1 _ _ rfl rfl)
  obtain ⟨l3, rfl, hl3, hc3⟩ := Go.Cln.open_agg (ts := [5, 30, 22, 4, 22, 4, 22, 31]) (by kernel_rfl) (by kernel_rfl) (by kernel_rfl) (hval 3 33 v3 rfl rfl)
  obtain ⟨x3_0, r3_0, rfl, hm3_0⟩ := Go.Cln.uncons hl3
  obtain ⟨x3_1, r3_1, rfl, hm3_1⟩ := Go.Cln.uncons hm3_0
  obtain ⟨x3_2, r3_2, rfl, hm3_2⟩ := Go.Cln.uncons hm3_1
  obtain ⟨x3_3, r3_3, rfl, hm3_3⟩ := Go.Cln.uncons hm3_2
  obtain ⟨x3_4, r3_4, rfl, hm3_4⟩ := Go.Cln.uncons hm3_3
  obtain ⟨x3_5, r3_5, rfl, hm3_5⟩ := Go.Cln.uncons hm3_4
  obtain ⟨x3_6, r3_6, rfl, hm3_6⟩ := Go.Cln.uncons hm3_5
  obtain ⟨x3_7, r3_7, rfl, hm3_7⟩ := Go.Cln.uncons hm3_6
  obtain rfl := Go.Cln.unnil hm3_7
  obtain ⟨a3_0, rfl, w3_0⟩ := Go.Cln.cell_int Tryz.underlying5 (hc3 0 _ _ rfl rfl)
  obtain ⟨a3_1, n3_1, c3_1, rfl, s3_1⟩ := Go.Cln.cell_slice Tryz.underlying30 (hc3 1 _ _ rfl rfl)
  obtain ⟨a3_2, rfl, w3_2⟩ := Go.Cln.cell_int Tryz.underlying22 (hc3 2 _ _ rfl rfl)
  obtain ⟨a3_3, rfl⟩ := Go.Cln.cell_bool Tryz.underlying4 (hc3 3 _ _ rfl rfl)
  obtain ⟨a3_4, rfl, w3_4⟩ := Go.Cln.cell_int Tryz.underlying22 (hc3 4 _ _ rfl rfl)
  obtain ⟨a3_5, rfl⟩ := Go.Cln.cell_bool Tryz.underlying4 (hc3 5 _ _ rfl rfl)
  obtain ⟨a3_6, rfl, w3_6⟩ := Go.Cln.cell_int Tryz.underlying22 (hc3 6 _ _ rfl rfl)
  obtain ⟨a3_7, n3_7, c3_7, rfl, s3_7⟩ := Go.Cln.cell_slice Tryz.underlying31 (hc3 7 _ _ rfl rfl)
  have z3 := Go.Cln.open_deep (n := 8) (l := ob.ATT) (by kernel_rfl) h3
  clear hA0 hval0
  refine (walk W a0_0 w0_0 a0_1 w0_1 a0_2 w0_2 a0_3 w0_3 a0_4 a0_5 w0_5 a0_6 w0_6 a0_7 a0_8 a0_9 a0_10 a0_11 w0_11 a0_12 w0_12 a0_13 w0_13 a0_14 w0_14 a1_0 n1_0 c1_0 s1_0 a1_1 z1 a2_0 w2_0 a2_1 w2_1 a3_0 w3_0 a3_1 n3_1 c3_1 s3_1 a3_2 w3_2 a3_3 a3_4 w3_4 a3_5 a3_6 w3_6 a3_7 n3_7 c3_7 s3_7 z3).mono fun e W' ⟨he, bel⟩ => ?_
  subst he
  exact ⟨_, rfl, _, _, _, [], _, [], hW', trodAll_mk1 (shut_bool Tryz.underlying4 _), (trodAll_cons_mk (Below.trod laidOut (by kernel_rfl) (of_decide_eq_true (by kernel_rfl)) k0 bel lt0) (trodAll_cons_mk (Below.trod laidOut (by kernel_rfl) (of_decide_eq_true (by kernel_rfl)) k1 bel lt1) (trodAll_cons_mk (Below.trod laidOut (by kernel_rfl) (of_decide_eq_true (by kernel_rfl)) k2 bel lt2) (trodAll_cons_mk (Below.trod laidOut (by kernel_rfl) (of_decide_eq_true (by kernel_rfl)) k3 bel lt3) trodAll_mk0)))), rfl, bel.frame _, fun h => by cases h⟩

theorem over : Rows.policyFitsRow.holds Tryz.pinned (OpenSpec.ofChange Rows.policyFitsSpec) :=
  OpenClaim.holds_of_wide 3 Tryz.f3 rfl rfl rfl rfl rfl rfl rfl ⟨rfl, rfl, rfl, rfl, rfl⟩ rfl rfl rfl rfl rfl (by kernel_rfl) Tryz.func3 (by kernel_rfl)
    (of_decide_eq_true (by kernel_rfl)) (by unfold Func.isWrapper; first | (rw [if_pos (by decide +kernel)]; kernel_rfl) | (rw [if_neg (by decide +kernel)]; exact ⟨rfl, rfl⟩))
    (fun os started H enc _ => lifted os started H enc)

end policyFits
theorem policyFits_holds : Rows.PolicyFitsSaid := policyFits.over
end Go.Proofs.YthpoeegoankpoaaGreat
