/-
  Keys that are nil or that New did not make tell that they are none, hold nothing, and stay as they are, whatever key comes.
-/
import Derived.Test.YtjnjnbhbjkpjjaaRows
import Derived.Test.YtjnjnbhbjkpjjaaClnP27
import Derived.Test.YtjnjnbhbjkpjjaaShut
import Derived.WalkKit
import Derived.ProofKit
import Derived.ShutString
import Derived.ChangeOld
import Derived.Below
import Derived.IntWalk
namespace Go.Proofs.Ytjnjnbhbjkpjjaa
namespace keysNil
open Go.ChangeShapes Go.WideShapes Go.ChangeAt Go.RowKit
open Go.ChangeMaps (open_string shut_string)
set_option linter.unusedVariables false

theorem own : ownKnob Try.prog.godebug = none := by kernel_rfl
theorem laidOut : laidOutB Try.prog = true := by kernel_rfl

set_option linter.unusedSimpArgs false
set_option maxRecDepth 100000
theorem pg : Go.Cln.PG Try.prog := Go.Cln.PG.of (by decide +kernel)
theorem knownRuns : ((Go.Cln.mk Try.prog Go.Cln.Given.nothing 300).call 9 [] (Go.Cln.St.start 0 .leaf [])).map (fun r => (r.1, r.2.obl)) = some (.bool true, True) := by kernel_rfl
theorem known (W : World) : Calls Try.prog 9 #[] W fun e w' => e = .returned (.bool true) ∧ Below W.heap.size W w' := Go.Cln.ran pg (Go.Cln.GivenOk.nothing _) knownRuns trivial rfl rfl W
theorem runsFew (p s r g : Int) (m : ByteArray) : ((Go.Cln.mk Try.prog (Go.Cln.Given.one 9 (.bool true)) 300).call 7 [.agg #[.int .u32 p, .int .u8 s, .int .u8 r, .int .i64 g, .string m]] (Go.Cln.St.start 0 .leaf [some false])).map (fun r => (r.1, r.2.obl)) = some (.bool true, (True ∧ decide ((200 : Int) < (m.size : Int)) = false)) := by kernel_rfl
theorem runsMany (p s r g : Int) (m : ByteArray) : ((Go.Cln.mk Try.prog (Go.Cln.Given.one 9 (.bool true)) 300).call 7 [.agg #[.int .u32 p, .int .u8 s, .int .u8 r, .int .i64 g, .string m]] (Go.Cln.St.start 0 .leaf [some true])).map (fun r => (r.1, r.2.obl)) = some (.bool true, (True ∧ decide ((200 : Int) < (m.size : Int)) = true)) := by kernel_rfl
theorem walk (W : World) (p : Int) (w0 : (Lit.int .u32 p).wf = true) (s : Int) (w1 : (Lit.int .u8 s).wf = true) (r : Int) (w2 : (Lit.int .u8 r).wf = true) (g : Int) (w3 : (Lit.int .i64 g).wf = true) (m : ByteArray) :
    Calls Try.prog 7 #[.agg #[.int .u32 p, .int .u8 s, .int .u8 r, .int .i64 g, .string m]] W fun e w' => e = .returned (.bool true) ∧ Below W.heap.size W w' := by
  have K := Go.Cln.GivenOk.one (P := Try.prog) (f := 9) (v := .bool true) rfl known
  have hv : ∀ orc, Go.Cln.VL (Go.Cln.Dm (Go.Cln.St.start 0 .leaf orc)) (fun _ => ⟨0, 0, 0⟩) [.agg #[.int .u32 p, .int .u8 s, .int .u8 r, .int .i64 g, .string m]] [.agg #[.int .u32 p, .int .u8 s, .int .u8 r, .int .i64 g, .string m]] := fun orc => .cons (Go.Cln.VR.of_flat1 rfl) .nil
  by_cases h : m.size ≤ 200
  · exact Go.Cln.ranG pg K (runsFew p s r g m) ⟨trivial, by simp; omega⟩ rfl (Go.Cln.named_hs 0 _ _ W) (hv _)
  · exact Go.Cln.ranG pg K (runsMany p s r g m) ⟨trivial, by simp; omega⟩ rfl (Go.Cln.named_hs 0 _ _ W) (hv _)

set_option maxRecDepth 100000 in
theorem lifted (os : Os) (started : os.Started) (H : Type) (enc : TypeId × Value → H) :
    ReturnsInHanded {} Try.checked os 7 .any (Rows.keysNilSpec.pre6 enc Try.prog Try.f7 Rows.keysNilRow.domain false) (Rows.keysNilSpec.post enc Try.prog Try.f7 false true false false) := by
  refine returnsInHanded_of_change (C := Try.checked) own started (by kernel_rfl) Try.func7
    (ChangeSpec.witness6 (enc := enc) (C := Try.checked) false ⟨#[], #[.agg #[.int .u32 0, .int .u8 0, .int .u8 0, .int .i64 0, .string ⟨#[]⟩]], []⟩ 8 (by kernel_rfl) (by kernel_rfl) (by kernel_rfl) (by kernel_rfl)) ?_
  intro W base args ds gs before hval0 hW hcnd _
  have hval : ∀ (j : Nat) t v, Try.f7.params[j]? = some t → args[j]? = some v → Value.okWide Try.prog W .any base t v := hval0
  have hW' := hW
  obtain ⟨p, q, hA0, hV, rfl, hfz, hnd⟩ := hW
  have hA : DataW.TrodAll enc Try.prog W 0 (fun _ => true) true Try.f7.params.toList args.toList ds p := hA0
  rw [Try.params7] at hA hval
  obtain ⟨v0, vs0, d0, ds0, p0, q0, hargs, rfl, rfl, h0, r0⟩ := trodAll_cons hA
  obtain ⟨rfl, rfl, rfl⟩ := trodAll_nil r0
  obtain rfl : args = #[v0] := by cases args; simp_all
  obtain ⟨rfl, rfl⟩ := trodVars_none hV
  have k0 := h0
  have lt0 : ∀ x ∈ p0, x.block < W.heap.size := by obtain ⟨m, hm⟩ := k0; exact DataW.trod_lt m _ _ _ hm
  obtain ⟨l0, rfl, hl0, hc0⟩ := Go.Cln.open_agg (ts := [33, 5, 5, 34, 9]) (by kernel_rfl) (by kernel_rfl) (by kernel_rfl) (hval 0 36 v0 rfl rfl)
  obtain ⟨x0_0, r0_0, rfl, hm0_0⟩ := Go.Cln.uncons hl0
  obtain ⟨x0_1, r0_1, rfl, hm0_1⟩ := Go.Cln.uncons hm0_0
  obtain ⟨x0_2, r0_2, rfl, hm0_2⟩ := Go.Cln.uncons hm0_1
  obtain ⟨x0_3, r0_3, rfl, hm0_3⟩ := Go.Cln.uncons hm0_2
  obtain ⟨x0_4, r0_4, rfl, hm0_4⟩ := Go.Cln.uncons hm0_3
  obtain rfl := Go.Cln.unnil hm0_4
  obtain ⟨a0_0, rfl, w0_0⟩ := Go.Cln.cell_int Try.underlying33 (hc0 0 _ _ rfl rfl)
  obtain ⟨a0_1, rfl, w0_1⟩ := Go.Cln.cell_int Try.underlying5 (hc0 1 _ _ rfl rfl)
  obtain ⟨a0_2, rfl, w0_2⟩ := Go.Cln.cell_int Try.underlying5 (hc0 2 _ _ rfl rfl)
  obtain ⟨a0_3, rfl, w0_3⟩ := Go.Cln.cell_int Try.underlying34 (hc0 3 _ _ rfl rfl)
  obtain ⟨a0_4, rfl⟩ := Go.Cln.cell_string Try.underlying9 (hc0 4 _ _ rfl rfl)
  clear hA0 hval0
  refine (walk W a0_0 w0_0 a0_1 w0_1 a0_2 w0_2 a0_3 w0_3 a0_4).mono fun e W' ⟨he, bel⟩ => ?_
  subst he
  exact ⟨_, rfl, _, _, _, [], _, [], hW', trodAll_mk1 (shut_bool Try.underlying4 _), (trodAll_cons_mk (Below.trod laidOut (by kernel_rfl) (of_decide_eq_true (by kernel_rfl)) k0 bel lt0) trodAll_mk0), rfl, bel.frame _, fun h => by cases h⟩

theorem over : Rows.keysNilRow.holds Try.pinned (OpenSpec.ofChange Rows.keysNilSpec) :=
  OpenClaim.holds_of_wide 7 Try.f7 rfl rfl rfl rfl rfl rfl rfl ⟨rfl, rfl, rfl, rfl, rfl⟩ rfl rfl rfl rfl rfl (by kernel_rfl) Try.func7 (by kernel_rfl)
    (of_decide_eq_true (by kernel_rfl)) (by unfold Func.isWrapper; first | (rw [if_pos (by decide +kernel)]; kernel_rfl) | (rw [if_neg (by decide +kernel)]; exact ⟨rfl, rfl⟩))
    (fun os started H enc _ => lifted os started H enc)

end keysNil
theorem keysNil_holds : Rows.KeysNilSaid := keysNil.over
end Go.Proofs.Ytjnjnbhbjkpjjaa
