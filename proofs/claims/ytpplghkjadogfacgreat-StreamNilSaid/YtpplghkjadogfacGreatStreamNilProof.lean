/-
  A stream that is nil or that New did not make tells that it is none, holds nothing, and stays as it is, whatever comes.
-/
import Derived.Test.YtpplghkjadogfacGreatRows
import Derived.Test.YtpplghkjadogfacGreatClnP27
import Derived.Test.YtpplghkjadogfacGreatShut
import Derived.Test.YtpplghkjadogfacGreatKnown
import Derived.WalkKit
import Derived.ProofKit
import Derived.ShutString
import Derived.ChangeOld
import Derived.Below
import Derived.IntWalk
namespace Go.Proofs.YtpplghkjadogfacGreat
namespace streamNil
open Go.ChangeShapes Go.WideShapes Go.ChangeAt Go.RowKit
open Go.ChangeMaps (open_string shut_string)
set_option linter.unusedVariables false

theorem own : ownKnob Tryz.prog.godebug = none := by kernel_rfl
theorem laidOut : laidOutB Tryz.prog = true := by kernel_rfl

set_option linter.unusedSimpArgs false
set_option maxRecDepth 100000
theorem runsNil (f q k r : Int) : ((Go.Cln.mk Tryz.prog (Go.Cln.Given.one 4 (.bool true)) 300).call 3 [.agg #[.int .i64 f, .int .u32 q, .int .u32 k, .int .u16 r, .slice none 0 0]] (Go.Cln.St.start 0 .leaf [])).map (fun r => (r.1, r.2.obl)) = some (.bool true, True) := by kernel_rfl
theorem runsFew (f q k r : Int) (n c : Nat) : ((Go.Cln.mk Tryz.prog (Go.Cln.Given.one 4 (.bool true)) 300).call 3 [.agg #[.int .i64 f, .int .u32 q, .int .u32 k, .int .u16 r, .slice (some ⟨0, 0, none⟩) n c]] (Go.Cln.St.start 1 .leaf [some false])).map (fun r => (r.1, r.2.obl)) = some (.bool true, (True ∧ decide ((100 : Int) < (n : Int)) = false)) := by kernel_rfl
theorem runsMany (f q k r : Int) (n c : Nat) : ((Go.Cln.mk Tryz.prog (Go.Cln.Given.one 4 (.bool true)) 300).call 3 [.agg #[.int .i64 f, .int .u32 q, .int .u32 k, .int .u16 r, .slice (some ⟨0, 0, none⟩) n c]] (Go.Cln.St.start 1 .leaf [some true])).map (fun r => (r.1, r.2.obl)) = some (.bool true, (True ∧ decide ((100 : Int) < (n : Int)) = true)) := by kernel_rfl
theorem walk (W : World) (f : Int) (w0 : (Lit.int .i64 f).wf = true) (q : Int) (w1 : (Lit.int .u32 q).wf = true) (k : Int) (w2 : (Lit.int .u32 k).wf = true) (r : Int) (w3 : (Lit.int .u16 r).wf = true) (a1 : Option Addr) (n1 c1 : Nat) (s1 : (a1 = none ∧ n1 = 0 ∧ c1 = 0) ∨ ∃ b o, a1 = some ⟨b, o, none⟩ ∧ n1 ≤ c1 ∧ (c1 : Int) ≤ 9223372036854775807) :
    Calls Tryz.prog 3 #[.agg #[.int .i64 f, .int .u32 q, .int .u32 k, .int .u16 r, .slice a1 n1 c1]] W fun e w' => e = .returned (.bool true) ∧ Below W.heap.size W w' := by
  have K := Go.Cln.GivenOk.one (P := Tryz.prog) (f := 4) (v := .bool true) rfl kn.known
  rcases s1 with ⟨rfl, rfl, rfl⟩ | ⟨b, o, rfl, h1, h2⟩
  · exact Go.Cln.ranG (ρ := fun _ => ⟨0, 0, 0⟩) kn.pg K (runsNil f q k r) trivial rfl (Go.Cln.named_hs 0 _ _ W) (Go.Cln.VL.cons (Go.Cln.VR.of_flat1 rfl) Go.Cln.VL.nil)
  · have hs := Go.Cln.named_hs 1
    have hv : ∀ orc, Go.Cln.VL (Go.Cln.Dm (Go.Cln.St.start 1 .leaf orc)) (fun _ => ⟨b, o, 0⟩) [.agg #[.int .i64 f, .int .u32 q, .int .u32 k, .int .u16 r, .slice (some ⟨0, 0, none⟩) n1 c1]] [.agg #[.int .i64 f, .int .u32 q, .int .u32 k, .int .u16 r, .slice (some ⟨b, o, none⟩) n1 c1]] := by
      intro orc
      have inner : Go.Cln.VL (Go.Cln.Dm (Go.Cln.St.start 1 .leaf orc)) (fun _ => ⟨b, o, 0⟩) [.int .i64 f, .int .u32 q, .int .u32 k, .int .u16 r, .slice (some ⟨0, 0, none⟩) n1 c1] [.int .i64 f, .int .u32 q, .int .u32 k, .int .u16 r, .slice (some ⟨b, o, none⟩) n1 c1] :=
        .cons (.same rfl) (.cons (.same rfl) (.cons (.same rfl) (.cons (.same rfl) (.cons (Go.Cln.VR.unread (next := 1) (a := ⟨b, o, none⟩) (by decide) rfl rfl h1) .nil))))
      exact .cons (.agg rfl inner.2) .nil
    by_cases h : n1 ≤ 100
    · exact Go.Cln.ranG kn.pg K (runsFew f q k r n1 c1) ⟨trivial, by simp; omega⟩ rfl (hs _ _ W) (hv _)
    · exact Go.Cln.ranG kn.pg K (runsMany f q k r n1 c1) ⟨trivial, by simp; omega⟩ rfl (hs _ _ W) (hv _)

set_option maxRecDepth 100000 in
theorem lifted (os : Os) (started : os.Started) (H : Type) (enc : TypeId × Value → H) :
    ReturnsInHanded {} Tryz.checked os 3 .any (Rows.streamNilSpec.pre6 enc Tryz.prog Tryz.f3 Rows.streamNilRow.domain false) (Rows.streamNilSpec.post enc Tryz.prog Tryz.f3 false true false false) := by
  refine returnsInHanded_of_change (C := Tryz.checked) own started (by kernel_rfl) Tryz.func3
    (ChangeSpec.witness6 (enc := enc) (C := Tryz.checked) false ⟨#[], #[.agg #[.int .i64 0, .int .u32 0, .int .u32 0, .int .u16 0, .slice none 0 0]], []⟩ 8 (by kernel_rfl) (by kernel_rfl) (by kernel_rfl) (by kernel_rfl)) ?_
  intro W base args ds gs before hval0 hW hcnd _
  have hval : ∀ (j : Nat) t v, Tryz.f3.params[j]? = some t → args[j]? = some v → Value.okWide Tryz.prog W .any base t v := hval0
  have hW' := hW
  obtain ⟨p, q, hA0, hV, rfl, hfz, hnd⟩ := hW
  have hA : DataW.TrodAll enc Tryz.prog W 0 (fun _ => true) true Tryz.f3.params.toList args.toList ds p := hA0
  rw [Tryz.params3] at hA hval
  obtain ⟨v0, vs0, d0, ds0, p0, q0, hargs, rfl, rfl, h0, r0⟩ := trodAll_cons hA
  obtain ⟨rfl, rfl, rfl⟩ := trodAll_nil r0
  obtain rfl : args = #[v0] := by cases args; simp_all
  obtain ⟨rfl, rfl⟩ := trodVars_none hV
  have k0 := h0
  have lt0 : ∀ x ∈ p0, x.block < W.heap.size := by obtain ⟨m, hm⟩ := k0; exact DataW.trod_lt m _ _ _ hm
  obtain ⟨l0, rfl, hl0, hc0⟩ := Go.Cln.open_agg (ts := [22, 23, 23, 24, 25]) (by kernel_rfl) (by kernel_rfl) (by kernel_rfl) (hval 0 27 v0 rfl rfl)
  obtain ⟨x0_0, r0_0, rfl, hm0_0⟩ := Go.Cln.uncons hl0
  obtain ⟨x0_1, r0_1, rfl, hm0_1⟩ := Go.Cln.uncons hm0_0
  obtain ⟨x0_2, r0_2, rfl, hm0_2⟩ := Go.Cln.uncons hm0_1
  obtain ⟨x0_3, r0_3, rfl, hm0_3⟩ := Go.Cln.uncons hm0_2
  obtain ⟨x0_4, r0_4, rfl, hm0_4⟩ := Go.Cln.uncons hm0_3
  obtain rfl := Go.Cln.unnil hm0_4
  obtain ⟨a0_0, rfl, w0_0⟩ := Go.Cln.cell_int Tryz.underlying22 (hc0 0 _ _ rfl rfl)
  obtain ⟨a0_1, rfl, w0_1⟩ := Go.Cln.cell_int Tryz.underlying23 (hc0 1 _ _ rfl rfl)
  obtain ⟨a0_2, rfl, w0_2⟩ := Go.Cln.cell_int Tryz.underlying23 (hc0 2 _ _ rfl rfl)
  obtain ⟨a0_3, rfl, w0_3⟩ := Go.Cln.cell_int Tryz.underlying24 (hc0 3 _ _ rfl rfl)
  obtain ⟨a0_4, n0_4, c0_4, rfl, s0_4⟩ := Go.Cln.cell_slice Tryz.underlying25 (hc0 4 _ _ rfl rfl)
  clear hA0 hval0
  refine (walk W a0_0 w0_0 a0_1 w0_1 a0_2 w0_2 a0_3 w0_3 a0_4 n0_4 c0_4 s0_4).mono fun e W' ⟨he, bel⟩ => ?_
  subst he
  exact ⟨_, rfl, _, _, _, [], _, [], hW', trodAll_mk1 (shut_bool Tryz.underlying4 _), (trodAll_cons_mk (Below.trod laidOut (by kernel_rfl) (of_decide_eq_true (by kernel_rfl)) k0 bel lt0) trodAll_mk0), rfl, bel.frame _, fun h => by cases h⟩

theorem over : Rows.streamNilRow.holds Tryz.pinned (OpenSpec.ofChange Rows.streamNilSpec) :=
  OpenClaim.holds_of_wide 3 Tryz.f3 rfl rfl rfl rfl rfl rfl rfl ⟨rfl, rfl, rfl, rfl, rfl⟩ rfl rfl rfl rfl rfl (by kernel_rfl) Tryz.func3 (by kernel_rfl)
    (of_decide_eq_true (by kernel_rfl)) (by unfold Func.isWrapper; first | (rw [if_pos (by decide +kernel)]; kernel_rfl) | (rw [if_neg (by decide +kernel)]; exact ⟨rfl, rfl⟩))
    (fun os started H enc _ => lifted os started H enc)

end streamNil
theorem streamNil_holds : Rows.StreamNilSaid := streamNil.over
end Go.Proofs.YtpplghkjadogfacGreat
