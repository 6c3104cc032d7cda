/-
  it does not matter how a message is cut; the tag of one whole block is what AES makes of it xor the first block; doubling is linear
-/
import Derived.Test.YtkcngffpnnlmeaaRows
import Derived.Test.YtkcngffpnnlmeaaClnP27
import Derived.Test.YtkcngffpnnlmeaaShut
import Derived.Test.YtkcngffpnnlmeaaOpen
import Derived.Test.YtkcngffpnnlmeaaClnQc
import Derived.Test.YtkcngffpnnlmeaaClnHc
import Derived.WalkKit
import Derived.ProofKit
import Derived.ShutString
import Derived.ChangeOld
import Derived.Below
import Derived.IntWalk
namespace Go.Proofs.Ytkcngffpnnlmeaa
namespace cmacHolds
open Go.ChangeShapes Go.WideShapes Go.ChangeAt Go.RowKit
open Go.ChangeMaps (open_string shut_string)
set_option linter.unusedVariables false

theorem own : ownKnob Try.prog.godebug = none := by kernel_rfl
theorem laidOut : laidOutB Try.prog = true := by kernel_rfl

theorem _root_.Go.Cln.crowF {w : World} {a : Option Addr} {n c : Nat} {k : IntKind}
    (h : ∃ a' n' c', Value.slice a n c = .slice a' n' c' ∧ n' ≤ c' ∧ c' ≤ maxLen ∧ (n' = 0 ∨ ∃ (b o : Nat) (f : Nat → Int), a' = some ⟨b, o, none⟩ ∧ b < w.heap.size ∧ ∀ i, i < n' → w.cell? ⟨b, o + i, none⟩ = some (.int k (f i)) ∧ (Lit.int k (f i)).wf = true)) :
    n = 0 ∨ ∃ (b o : Nat) (f : Nat → Int), a = some ⟨b, o, none⟩ ∧ b < w.heap.size ∧ ∀ i, i < n → w.cell? ⟨b, o + i, none⟩ = some (.int k (f i)) ∧ (Lit.int k (f i)).wf = true := by
  obtain ⟨a', n', c', e, _, _, h⟩ := h
  cases e
  exact h
open Go.Cln in
theorem walk (W : World) (g0 : Nat → Int) (w0 : ∀ j, j < 16 → (Lit.int .u8 (g0 j)).wf = true) (a1 : Option Addr) (n1 c1 : Nat) (s1 : (a1 = none ∧ n1 = 0 ∧ c1 = 0) ∨ ∃ b o, a1 = some ⟨b, o, none⟩ ∧ n1 ≤ c1 ∧ (c1 : Int) ≤ 9223372036854775807)
    (z1 : n1 = 0 ∨ ∃ (b o : Nat) (f : Nat → Int), a1 = some ⟨b, o, none⟩ ∧ b < W.heap.size ∧ ∀ j, j < n1 → W.cell? ⟨b, o + j, none⟩ = some (.int .u8 (f j)) ∧ (Lit.int .u8 (f j)).wf = true)
    (a2 : Option Addr) (n2 c2 : Nat) (s2 : (a2 = none ∧ n2 = 0 ∧ c2 = 0) ∨ ∃ b o, a2 = some ⟨b, o, none⟩ ∧ n2 ≤ c2 ∧ (c2 : Int) ≤ 9223372036854775807)
    (z2 : n2 = 0 ∨ ∃ (b o : Nat) (f : Nat → Int), a2 = some ⟨b, o, none⟩ ∧ b < W.heap.size ∧ ∀ j, j < n2 → W.cell? ⟨b, o + j, none⟩ = some (.int .i64 (f j)) ∧ (Lit.int .i64 (f j)).wf = true) (g3 : Nat → Int) (w3 : ∀ j, j < 16 → (Lit.int .u8 (g3 j)).wf = true) (g4 : Nat → Int) (w4 : ∀ j, j < 16 → (Lit.int .u8 (g4 j)).wf = true) :
    Calls Try.prog 7 #[.agg (rowV .u8 16 g0).toArray, .slice a1 n1 c1, .slice a2 n2 c2, .agg (rowV .u8 16 g3).toArray, .agg (rowV .u8 16 g4).toArray] W fun e w' => e = .returned (.bool true) ∧ Below W.heap.size W w' := ho.cmacHolds W g0 w0 a1 n1 c1 s1 z1 a2 n2 c2 s2 z2 g3 w3 g4 w4

set_option maxRecDepth 100000 in
theorem lifted (os : Os) (started : os.Started) (H : Type) (enc : TypeId × Value → H) :
    ReturnsInHanded {} Try.checked os 7 .any (Rows.cmacHoldsSpec.pre6 enc Try.prog Try.f7 Rows.cmacHoldsRow.domain false) (Rows.cmacHoldsSpec.post enc Try.prog Try.f7 false true false false) := by
  refine returnsInHanded_of_change (C := Try.checked) own started (by kernel_rfl) Try.func7
    (ChangeSpec.witness6 (enc := enc) (C := Try.checked) false ⟨#[], #[.agg #[.int .u8 0, .int .u8 0, .int .u8 0, .int .u8 0, .int .u8 0, .int .u8 0, .int .u8 0, .int .u8 0, .int .u8 0, .int .u8 0, .int .u8 0, .int .u8 0, .int .u8 0, .int .u8 0, .int .u8 0, .int .u8 0], .slice none 0 0, .slice none 0 0, .agg #[.int .u8 0, .int .u8 0, .int .u8 0, .int .u8 0, .int .u8 0, .int .u8 0, .int .u8 0, .int .u8 0, .int .u8 0, .int .u8 0, .int .u8 0, .int .u8 0, .int .u8 0, .int .u8 0, .int .u8 0, .int .u8 0], .agg #[.int .u8 0, .int .u8 0, .int .u8 0, .int .u8 0, .int .u8 0, .int .u8 0, .int .u8 0, .int .u8 0, .int .u8 0, .int .u8 0, .int .u8 0, .int .u8 0, .int .u8 0, .int .u8 0, .int .u8 0, .int .u8 0]], []⟩ 8 (by kernel_rfl) (by kernel_rfl) (by kernel_rfl) (by kernel_rfl)) ?_
  intro W base args ds gs before hval0 hW hcnd _
  have hval : ∀ (j : Nat) t v, Try.f7.params[j]? = some t → args[j]? = some v → Value.okWide Try.prog W .any base t v := hval0
  have hW' := hW
  obtain ⟨p, q, hA0, hV, rfl, hfz, hnd⟩ := hW
  have hA : DataW.TrodAll enc Try.prog W 0 (fun _ => true) true Try.f7.params.toList args.toList ds p := hA0
  rw [Try.params7] at hA hval
  obtain ⟨v0, vs0, d0, ds0, p0, q0, hargs, rfl, rfl, h0, r0⟩ := trodAll_cons hA
  obtain ⟨v1, vs1, d1, ds1, p1, q1, rfl, rfl, rfl, h1, r1⟩ := trodAll_cons r0
  obtain ⟨v2, vs2, d2, ds2, p2, q2, rfl, rfl, rfl, h2, r2⟩ := trodAll_cons r1
  obtain ⟨v3, vs3, d3, ds3, p3, q3, rfl, rfl, rfl, h3, r3⟩ := trodAll_cons r2
  obtain ⟨v4, vs4, d4, ds4, p4, q4, rfl, rfl, rfl, h4, r4⟩ := trodAll_cons r3
  obtain ⟨rfl, rfl, rfl⟩ := trodAll_nil r4
  obtain rfl : args = #[v0, v1, v2, v3, v4] := by cases args; simp_all
  obtain ⟨rfl, rfl⟩ := trodVars_none hV
  have k0 := h0
  have lt0 : ∀ x ∈ p0, x.block < W.heap.size := by obtain ⟨m, hm⟩ := k0; exact DataW.trod_lt m _ _ _ hm
  have k1 := h1
  have lt1 : ∀ x ∈ p1, x.block < W.heap.size := by obtain ⟨m, hm⟩ := k1; exact DataW.trod_lt m _ _ _ hm
  have k2 := h2
  have lt2 : ∀ x ∈ p2, x.block < W.heap.size := by obtain ⟨m, hm⟩ := k2; exact DataW.trod_lt m _ _ _ hm
  have k3 := h3
  have lt3 : ∀ x ∈ p3, x.block < W.heap.size := by obtain ⟨m, hm⟩ := k3; exact DataW.trod_lt m _ _ _ hm
  have k4 := h4
  have lt4 : ∀ x ∈ p4, x.block < W.heap.size := by obtain ⟨m, hm⟩ := k4; exact DataW.trod_lt m _ _ _ hm
  obtain ⟨a0, rfl, w0⟩ := Go.Cln.open_row (n := 16) (u := 5) (k := .u8) (by kernel_rfl) (by kernel_rfl) (by kernel_rfl) Try.underlying5 (hval 0 25 v0 rfl rfl)
  obtain ⟨a1, n1, c1, rfl, s1⟩ := Go.Cln.open_slice Try.underlying22 (hval 1 22 v1 rfl rfl)
  have z1 := open_irow Try.underlying22 Try.underlying5 (by kernel_rfl) (hval 1 22 _ rfl rfl) h1
  replace z1 := Go.Cln.crowF z1
  obtain ⟨a2, n2, c2, rfl, s2⟩ := Go.Cln.open_slice Try.underlying56 (hval 2 56 v2 rfl rfl)
  have z2 := open_irow Try.underlying56 Try.underlying3 (by kernel_rfl) (hval 2 56 _ rfl rfl) h2
  replace z2 := Go.Cln.crowF z2
  obtain ⟨a3, rfl, w3⟩ := Go.Cln.open_row (n := 16) (u := 5) (k := .u8) (by kernel_rfl) (by kernel_rfl) (by kernel_rfl) Try.underlying5 (hval 3 25 v3 rfl rfl)
  obtain ⟨a4, rfl, w4⟩ := Go.Cln.open_row (n := 16) (u := 5) (k := .u8) (by kernel_rfl) (by kernel_rfl) (by kernel_rfl) Try.underlying5 (hval 4 25 v4 rfl rfl)
  clear hA0 hval0
  refine (walk W a0 w0 a1 n1 c1 s1 z1 a2 n2 c2 s2 z2 a3 w3 a4 w4).mono fun e W' ⟨he, bel⟩ => ?_
  subst he
  exact ⟨_, rfl, _, _, _, [], _, [], hW', trodAll_mk1 (shut_bool Try.underlying4 _), (trodAll_cons_mk (Below.trod laidOut (by kernel_rfl) (of_decide_eq_true (by kernel_rfl)) k0 bel lt0) (trodAll_cons_mk (Below.trod laidOut (by kernel_rfl) (of_decide_eq_true (by kernel_rfl)) k1 bel lt1) (trodAll_cons_mk (Below.trod laidOut (by kernel_rfl) (of_decide_eq_true (by kernel_rfl)) k2 bel lt2) (trodAll_cons_mk (Below.trod laidOut (by kernel_rfl) (of_decide_eq_true (by kernel_rfl)) k3 bel lt3) (trodAll_cons_mk (Below.trod laidOut (by kernel_rfl) (of_decide_eq_true (by kernel_rfl)) k4 bel lt4) trodAll_mk0))))), rfl, bel.frame _, fun h => by cases h⟩

theorem over : Rows.cmacHoldsRow.holds Try.pinned (OpenSpec.ofChange Rows.cmacHoldsSpec) :=
  OpenClaim.holds_of_wide 7 Try.f7 rfl rfl rfl rfl rfl rfl rfl ⟨rfl, rfl, rfl, rfl, rfl⟩ rfl rfl rfl rfl rfl (by kernel_rfl) Try.func7 (by kernel_rfl)
    (of_decide_eq_true (by kernel_rfl)) (by unfold Func.isWrapper; first | (rw [if_pos (by decide +kernel)]; kernel_rfl) | (rw [if_neg (by decide +kernel)]; exact ⟨rfl, rfl⟩))
    (fun os started H enc _ => lifted os started H enc)

end cmacHolds
theorem cmacHolds_holds : Rows.CmacHoldsSaid := cmacHolds.over
end Go.Proofs.Ytkcngffpnnlmeaa
