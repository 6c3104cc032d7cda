/-
  A heap that is nil or that New did not make tells that it is none, holds nothing, and stays as it is, whatever is put into it.
-/
import Derived.Test.YtjnjnbhbjkpjjadRows
import Derived.Test.YtjnjnbhbjkpjjadClnP27
import Derived.Test.YtjnjnbhbjkpjjadShut
import Derived.WalkKit
import Derived.ProofKit
import Derived.ShutString
import Derived.ChangeOld
import Derived.Below
import Derived.IntWalk
namespace Go.Proofs.Ytjnjnbhbjkpjjad
namespace reasmNil
open Go.ChangeShapes Go.WideShapes Go.ChangeAt Go.RowKit
open Go.ChangeMaps (open_string shut_string)
set_option linter.unusedVariables false

theorem own : ownKnob Try.prog.godebug = none := by kernel_rfl
theorem laidOut : laidOutB Try.prog = true := by kernel_rfl

set_option linter.unusedSimpArgs false
set_option maxRecDepth 100000
theorem runsNil (a : Int) : ((Go.Cln.mk Try.prog (Go.Cln.Given.one 9 (.bool true)) 200).call 7 [.int .i64 a, .slice none 0 0] (Go.Cln.St.start 0 .leaf [])).map (fun r => (r.1, r.2.obl)) = some (.bool true, True) := by kernel_rfl
theorem runsFew (a : Int) (n c : Nat) : ((Go.Cln.mk Try.prog (Go.Cln.Given.one 9 (.bool true)) 200).call 7 [.int .i64 a, .slice (some ⟨0, 0, none⟩) n c] (Go.Cln.St.start 1 .leaf [some false])).map (fun r => (r.1, r.2.obl)) = some (.bool true, (True ∧ decide ((100 : Int) < (n : Int)) = false)) := by kernel_rfl
theorem runsMany (a : Int) (n c : Nat) : ((Go.Cln.mk Try.prog (Go.Cln.Given.one 9 (.bool true)) 200).call 7 [.int .i64 a, .slice (some ⟨0, 0, none⟩) n c] (Go.Cln.St.start 1 .leaf [some true])).map (fun r => (r.1, r.2.obl)) = some (.bool true, (True ∧ decide ((100 : Int) < (n : Int)) = true)) := by kernel_rfl
theorem pg : Go.Cln.PG Try.prog := Go.Cln.PG.of (by decide +kernel)
theorem knownRuns : ((Go.Cln.mk Try.prog Go.Cln.Given.nothing 200).call 9 [] (Go.Cln.St.start 0 .leaf [])).map (fun r => (r.1, r.2.obl)) = some (.bool true, True) := by kernel_rfl
theorem known (W : World) : Calls Try.prog 9 #[] W fun e w' => e = .returned (.bool true) ∧ Below W.heap.size W w' := Go.Cln.ran pg (Go.Cln.GivenOk.nothing _) knownRuns trivial rfl rfl W
theorem walk (W : World) (a0 : Int) (w0 : (Lit.int .i64 a0).wf = true) (a1 : Option Addr) (n1 c1 : Nat) (s1 : (a1 = none ∧ n1 = 0 ∧ c1 = 0) ∨ ∃ b o, a1 = some ⟨b, o, none⟩ ∧ n1 ≤ c1 ∧ (c1 : Int) ≤ 9223372036854775807) :
    Calls Try.prog 7 #[.int .i64 a0, .slice a1 n1 c1] W fun e w' => e = .returned (.bool true) ∧ Below W.heap.size W w' := by
  have K := Go.Cln.GivenOk.one (P := Try.prog) (f := 9) (v := .bool true) rfl known
  rcases s1 with ⟨rfl, rfl, rfl⟩ | ⟨b, o, rfl, h1, h2⟩
  · exact Go.Cln.ran pg K (runsNil a0) trivial rfl rfl W
  · have hs := Go.Cln.named_hs 1
    have hv : ∀ orc, Go.Cln.VL (Go.Cln.Dm (Go.Cln.St.start 1 .leaf orc)) (fun _ => ⟨b, o, 0⟩) [.int .i64 a0, .slice (some ⟨0, 0, none⟩) n1 c1] [.int .i64 a0, .slice (some ⟨b, o, none⟩) n1 c1] := fun orc =>
      .cons (.same rfl) (.cons (Go.Cln.VR.unread (by decide) rfl rfl h1) .nil)
    by_cases h : n1 ≤ 100
    · exact Go.Cln.ranG pg K (runsFew a0 n1 c1) ⟨trivial, by simp; omega⟩ rfl (hs _ _ W) (hv _)
    · exact Go.Cln.ranG pg K (runsMany a0 n1 c1) ⟨trivial, by simp; omega⟩ rfl (hs _ _ W) (hv _)

set_option maxRecDepth 100000 in
theorem lifted (os : Os) (started : os.Started) (H : Type) (enc : TypeId × Value → H) :
    ReturnsInHanded {} Try.checked os 7 .any (Rows.reasmNilSpec.pre6 enc Try.prog Try.f7 Rows.reasmNilRow.domain false) (Rows.reasmNilSpec.post enc Try.prog Try.f7 false true false false) := by
  refine returnsInHanded_of_change (C := Try.checked) own started (by kernel_rfl) Try.func7
    (ChangeSpec.witness6 (enc := enc) (C := Try.checked) false ⟨#[], #[.int .i64 0, .slice none 0 0], []⟩ 8 (by kernel_rfl) (by kernel_rfl) (by kernel_rfl) (by kernel_rfl)) ?_
  intro W base args ds gs before hval0 hW hcnd _
  have hval : ∀ (j : Nat) t v, Try.f7.params[j]? = some t → args[j]? = some v → Value.okWide Try.prog W .any base t v := hval0
  have hW' := hW
  obtain ⟨p, q, hA0, hV, rfl, hfz, hnd⟩ := hW
  have hA : DataW.TrodAll enc Try.prog W 0 (fun _ => true) true Try.f7.params.toList args.toList ds p := hA0
  rw [Try.params7] at hA hval
  obtain ⟨v0, vs0, d0, ds0, p0, q0, hargs, rfl, rfl, h0, r0⟩ := trodAll_cons hA
  obtain ⟨v1, vs1, d1, ds1, p1, q1, rfl, rfl, rfl, h1, r1⟩ := trodAll_cons r0
  obtain ⟨rfl, rfl, rfl⟩ := trodAll_nil r1
  obtain rfl : args = #[v0, v1] := by cases args; simp_all
  obtain ⟨rfl, rfl⟩ := trodVars_none hV
  have k0 := h0
  have lt0 : ∀ x ∈ p0, x.block < W.heap.size := by obtain ⟨m, hm⟩ := k0; exact DataW.trod_lt m _ _ _ hm
  have k1 := h1
  have lt1 : ∀ x ∈ p1, x.block < W.heap.size := by obtain ⟨m, hm⟩ := k1; exact DataW.trod_lt m _ _ _ hm
  obtain ⟨a0, rfl, rfl, rfl, w0⟩ := open_int Try.underlying2 (hval 0 2 v0 rfl rfl) h0
  obtain ⟨a1, n1, c1, rfl, s1⟩ := Go.Cln.open_slice Try.underlying35 (hval 1 35 v1 rfl rfl)
  clear hA0 hval0
  refine (walk W a0 w0 a1 n1 c1 s1).mono fun e W' ⟨he, bel⟩ => ?_
  subst he
  exact ⟨_, rfl, _, _, _, [], _, [], hW', trodAll_mk1 (shut_bool Try.underlying4 _), (trodAll_cons_mk (Below.trod laidOut (by kernel_rfl) (of_decide_eq_true (by kernel_rfl)) k0 bel lt0) (trodAll_cons_mk (Below.trod laidOut (by kernel_rfl) (of_decide_eq_true (by kernel_rfl)) k1 bel lt1) trodAll_mk0)), rfl, bel.frame _, fun h => by cases h⟩

theorem over : Rows.reasmNilRow.holds Try.pinned (OpenSpec.ofChange Rows.reasmNilSpec) :=
  OpenClaim.holds_of_wide 7 Try.f7 rfl rfl rfl rfl rfl rfl rfl ⟨rfl, rfl, rfl, rfl, rfl⟩ rfl rfl rfl rfl rfl (by kernel_rfl) Try.func7 (by kernel_rfl)
    (of_decide_eq_true (by kernel_rfl)) (by unfold Func.isWrapper; first | (rw [if_pos (by decide +kernel)]; kernel_rfl) | (rw [if_neg (by decide +kernel)]; exact ⟨rfl, rfl⟩))
    (fun os started H enc _ => lifted os started H enc)

end reasmNil
theorem reasmNil_holds : Rows.ReasmNilSaid := reasmNil.over
end Go.Proofs.Ytjnjnbhbjkpjjad
