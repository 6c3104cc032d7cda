/-
  A window that is shut for any room and opened for any other does, act by act, what the document says.
-/
import Derived.Test.YtjnjnbhbjkpjjabRows
import Derived.Test.YtjnjnbhbjkpjjabClnP27
import Derived.Test.YtjnjnbhbjkpjjabShut
import Derived.Test.YtjnjnbhbjkpjjabWtA
import Derived.Test.YtjnjnbhbjkpjjabWtB
import Derived.Test.YtjnjnbhbjkpjjabWtC
import Derived.Test.YtjnjnbhbjkpjjabWtD
import Derived.Test.YtjnjnbhbjkpjjabWsE
import Derived.Test.YtjnjnbhbjkpjjabWsF
import Derived.WalkKit
import Derived.ProofKit
import Derived.ShutString
import Derived.ChangeOld
import Derived.Below
import Derived.IntWalk
namespace Go.Proofs.Ytjnjnbhbjkpjjab
namespace windowShut
open Go.ChangeShapes Go.WideShapes Go.ChangeAt Go.RowKit
open Go.ChangeMaps (open_string shut_string)
set_option linter.unusedVariables false

theorem own : ownKnob Try.prog.godebug = none := by kernel_rfl
theorem laidOut : laidOutB Try.prog = true := by kernel_rfl

set_option linter.unusedSimpArgs false
set_option maxRecDepth 100000
theorem small0 (a b : Int) : ((Go.Cln.mk Try.prog ws.kn 300).call 6 [.int .i64 a, .int .i64 b] (Go.Cln.St.start 0 .leaf [some true])).map (fun r => (r.1, r.2.obl)) = some (.bool true, (True ∧ decide (a < 0) = true)) := by kernel_rfl
theorem small1 (a b : Int) : ((Go.Cln.mk Try.prog ws.kn 300).call 6 [.int .i64 a, .int .i64 b] (Go.Cln.St.start 0 .leaf [some false, none, none, some true])).map (fun r => (r.1, r.2.obl)) = some (.bool true, ((True ∧ decide (a < 0) = false) ∧ decide (65535 < a) = true)) := by kernel_rfl
theorem small2 (a b : Int) : ((Go.Cln.mk Try.prog ws.kn 300).call 6 [.int .i64 a, .int .i64 b] (Go.Cln.St.start 0 .leaf [some false, none, none, some false, none, none, some true])).map (fun r => (r.1, r.2.obl)) = some (.bool true, (((True ∧ decide (a < 0) = false) ∧ decide (65535 < a) = false) ∧ decide (b < 0) = true)) := by kernel_rfl
theorem small3 (a b : Int) : ((Go.Cln.mk Try.prog ws.kn 300).call 6 [.int .i64 a, .int .i64 b] (Go.Cln.St.start 0 .leaf [some false, none, none, some false, none, none, some false, none, none, some true])).map (fun r => (r.1, r.2.obl)) = some (.bool true, ((((True ∧ decide (a < 0) = false) ∧ decide (65535 < a) = false) ∧ decide (b < 0) = false) ∧ decide (65535 < b) = true)) := by kernel_rfl
theorem walk (W : World) (a0 : Int) (w0 : (Lit.int .i64 a0).wf = true) (a1 : Int) (w1 : (Lit.int .i64 a1).wf = true) :
    Calls Try.prog 6 #[.int .i64 a0, .int .i64 a1] W fun e w' => e = .returned (.bool true) ∧ Below W.heap.size W w' := by
  have K := ws.knOk
  by_cases h1 : a0 < 0
  · exact Go.Cln.ran ws.pg K (small0 a0 a1) (by simp [h1]) rfl rfl W
  by_cases h2 : 65535 < a0
  · exact Go.Cln.ran ws.pg K (small1 a0 a1) (by simp [h1, h2]) rfl rfl W
  by_cases h3 : a1 < 0
  · exact Go.Cln.ran ws.pg K (small2 a0 a1) (by simp [h1, h2, h3]) rfl rfl W
  by_cases h4 : 65535 < a1
  · exact Go.Cln.ran ws.pg K (small3 a0 a1) (by simp [h1, h2, h3, h4]) rfl rfl W
  by_cases h5 : a0 = 0
  · subst h5
    by_cases h6 : a1 = 0
    · subst h6; exact Go.Cln.ran ws.pg K ws.runE trivial rfl rfl W
    by_cases h7 : a1 = 1
    · subst h7; exact Go.Cln.ran ws.pg K ws.runF trivial rfl rfl W
    exact Go.Cln.ran ws.pg K (ws.runA a1) (ws.conjI_of (ws.allA a1 (by omega) (by omega)) _ trivial) rfl rfl W
  by_cases h6 : a1 = 0
  · subst h6; exact Go.Cln.ran ws.pg K (ws.runB a0) (ws.conjI_of (ws.allB a0 (by omega) (by omega)) _ trivial) rfl rfl W
  by_cases h7 : a1 = 1
  · subst h7; exact Go.Cln.ran ws.pg K (ws.runC a0) (ws.conjI_of (ws.allC a0 (by omega) (by omega)) _ trivial) rfl rfl W
  exact Go.Cln.ran ws.pg K (ws.runD a0 a1) (ws.conjI_of (ws.allD a0 a1 (by omega) (by omega) (by omega) (by omega)) _ trivial) rfl rfl W

set_option maxRecDepth 100000 in
theorem lifted (os : Os) (started : os.Started) (H : Type) (enc : TypeId × Value → H) :
    ReturnsInHanded {} Try.checked os 6 .any (Rows.windowShutSpec.pre6 enc Try.prog Try.f6 Rows.windowShutRow.domain false) (Rows.windowShutSpec.post enc Try.prog Try.f6 false true false false) := by
  refine returnsInHanded_of_change (C := Try.checked) own started (by kernel_rfl) Try.func6
    (ChangeSpec.witness6 (enc := enc) (C := Try.checked) false ⟨#[], #[.int .i64 0, .int .i64 0], []⟩ 8 (by kernel_rfl) (by kernel_rfl) (by kernel_rfl) (by kernel_rfl)) ?_
  intro W base args ds gs before hval0 hW hcnd _
  have hval : ∀ (j : Nat) t v, Try.f6.params[j]? = some t → args[j]? = some v → Value.okWide Try.prog W .any base t v := hval0
  have hW' := hW
  obtain ⟨p, q, hA0, hV, rfl, hfz, hnd⟩ := hW
  have hA : DataW.TrodAll enc Try.prog W 0 (fun _ => true) true Try.f6.params.toList args.toList ds p := hA0
  rw [Try.params6] at hA hval
  obtain ⟨v0, vs0, d0, ds0, p0, q0, hargs, rfl, rfl, h0, r0⟩ := trodAll_cons hA
  obtain ⟨v1, vs1, d1, ds1, p1, q1, rfl, rfl, rfl, h1, r1⟩ := trodAll_cons r0
  obtain ⟨rfl, rfl, rfl⟩ := trodAll_nil r1
  obtain rfl : args = #[v0, v1] := by cases args; simp_all
  obtain ⟨rfl, rfl⟩ := trodVars_none hV
  have k0 := h0
  have lt0 : ∀ x ∈ p0, x.block < W.heap.size := by obtain ⟨m, hm⟩ := k0; exact DataW.trod_lt m _ _ _ hm
  have k1 := h1
  have lt1 : ∀ x ∈ p1, x.block < W.heap.size := by obtain ⟨m, hm⟩ := k1; exact DataW.trod_lt m _ _ _ hm
  obtain ⟨a0, rfl, rfl, rfl, w0⟩ := open_int Try.underlying3 (hval 0 3 v0 rfl rfl) h0
  obtain ⟨a1, rfl, rfl, rfl, w1⟩ := open_int Try.underlying3 (hval 1 3 v1 rfl rfl) h1
  clear hA0 hval0
  refine (walk W a0 w0 a1 w1).mono fun e W' ⟨he, bel⟩ => ?_
  subst he
  exact ⟨_, rfl, _, _, _, [], _, [], hW', trodAll_mk1 (shut_bool Try.underlying4 _), (trodAll_cons_mk (Below.trod laidOut (by kernel_rfl) (of_decide_eq_true (by kernel_rfl)) k0 bel lt0) (trodAll_cons_mk (Below.trod laidOut (by kernel_rfl) (of_decide_eq_true (by kernel_rfl)) k1 bel lt1) trodAll_mk0)), rfl, bel.frame _, fun h => by cases h⟩

theorem over : Rows.windowShutRow.holds Try.pinned (OpenSpec.ofChange Rows.windowShutSpec) :=
  OpenClaim.holds_of_wide 6 Try.f6 rfl rfl rfl rfl rfl rfl rfl ⟨rfl, rfl, rfl, rfl, rfl⟩ rfl rfl rfl rfl rfl (by kernel_rfl) Try.func6 (by kernel_rfl)
    (of_decide_eq_true (by kernel_rfl)) (by unfold Func.isWrapper; first | (rw [if_pos (by decide +kernel)]; kernel_rfl) | (rw [if_neg (by decide +kernel)]; exact ⟨rfl, rfl⟩))
    (fun os started H enc _ => lifted os started H enc)

end windowShut
theorem windowShut_holds : Rows.WindowShutSaid := windowShut.over
end Go.Proofs.Ytjnjnbhbjkpjjab
