/-
  Whatever number is asked, the notice that is told for it is the one of the document, or there is none.
-/
import Derived.Test.YtpplghkjadogfabGreatRows
import Derived.Test.YtpplghkjadogfabGreatClnP27
import Derived.Test.YtpplghkjadogfabGreatShut
import Derived.WalkKit
import Derived.ProofKit
import Derived.ShutString
import Derived.ChangeOld
import Derived.Below
import Derived.IntWalk
namespace Go.Proofs.YtpplghkjadogfabGreat
namespace msgNotices
open Go.ChangeShapes Go.WideShapes Go.ChangeAt Go.RowKit
open Go.ChangeMaps (open_string shut_string)
set_option linter.unusedVariables false

theorem own : ownKnob Tryz.prog.godebug = none := by kernel_rfl
theorem laidOut : laidOutB Tryz.prog = true := by kernel_rfl

set_option linter.unusedSimpArgs false
set_option maxRecDepth 100000
theorem pg : Go.Cln.PG Tryz.prog := Go.Cln.PG.of (by decide +kernel)
theorem worksRuns : ((Go.Cln.mk Tryz.prog Go.Cln.Given.nothing 300).call 6 [] (Go.Cln.St.start 0 .leaf [])).map (fun r => (r.1, r.2.obl)) = some (.bool true, True) := by kernel_rfl
theorem works (W : World) : Calls Tryz.prog 6 #[] W fun e w' => e = .returned (.bool true) ∧ Below W.heap.size W w' := Go.Cln.ran pg (Go.Cln.GivenOk.nothing _) worksRuns trivial rfl rfl W
theorem at270 : ((Go.Cln.mk Tryz.prog (Go.Cln.Given.one 6 (.bool true)) 300).call 3 [.int .i64 270] (Go.Cln.St.start 0 .leaf [])).map (fun r => (r.1, r.2.obl)) = some (.bool true, True) := by kernel_rfl
theorem at271 : ((Go.Cln.mk Tryz.prog (Go.Cln.Given.one 6 (.bool true)) 300).call 3 [.int .i64 271] (Go.Cln.St.start 0 .leaf [])).map (fun r => (r.1, r.2.obl)) = some (.bool true, True) := by kernel_rfl
theorem at272 : ((Go.Cln.mk Tryz.prog (Go.Cln.Given.one 6 (.bool true)) 300).call 3 [.int .i64 272] (Go.Cln.St.start 0 .leaf [])).map (fun r => (r.1, r.2.obl)) = some (.bool true, True) := by kernel_rfl
theorem at280 : ((Go.Cln.mk Tryz.prog (Go.Cln.Given.one 6 (.bool true)) 300).call 3 [.int .i64 280] (Go.Cln.St.start 0 .leaf [])).map (fun r => (r.1, r.2.obl)) = some (.bool true, True) := by kernel_rfl
theorem at281 : ((Go.Cln.mk Tryz.prog (Go.Cln.Given.one 6 (.bool true)) 300).call 3 [.int .i64 281] (Go.Cln.St.start 0 .leaf [])).map (fun r => (r.1, r.2.obl)) = some (.bool true, True) := by kernel_rfl
theorem at282 : ((Go.Cln.mk Tryz.prog (Go.Cln.Given.one 6 (.bool true)) 300).call 3 [.int .i64 282] (Go.Cln.St.start 0 .leaf [])).map (fun r => (r.1, r.2.obl)) = some (.bool true, True) := by kernel_rfl
theorem at283 : ((Go.Cln.mk Tryz.prog (Go.Cln.Given.one 6 (.bool true)) 300).call 3 [.int .i64 283] (Go.Cln.St.start 0 .leaf [])).map (fun r => (r.1, r.2.obl)) = some (.bool true, True) := by kernel_rfl
theorem at284 : ((Go.Cln.mk Tryz.prog (Go.Cln.Given.one 6 (.bool true)) 300).call 3 [.int .i64 284] (Go.Cln.St.start 0 .leaf [])).map (fun r => (r.1, r.2.obl)) = some (.bool true, True) := by kernel_rfl
theorem at285 : ((Go.Cln.mk Tryz.prog (Go.Cln.Given.one 6 (.bool true)) 300).call 3 [.int .i64 285] (Go.Cln.St.start 0 .leaf [])).map (fun r => (r.1, r.2.obl)) = some (.bool true, True) := by kernel_rfl
theorem at290 : ((Go.Cln.mk Tryz.prog (Go.Cln.Given.one 6 (.bool true)) 300).call 3 [.int .i64 290] (Go.Cln.St.start 0 .leaf [])).map (fun r => (r.1, r.2.obl)) = some (.bool true, True) := by kernel_rfl
theorem at291 : ((Go.Cln.mk Tryz.prog (Go.Cln.Given.one 6 (.bool true)) 300).call 3 [.int .i64 291] (Go.Cln.St.start 0 .leaf [])).map (fun r => (r.1, r.2.obl)) = some (.bool true, True) := by kernel_rfl
theorem at292 : ((Go.Cln.mk Tryz.prog (Go.Cln.Given.one 6 (.bool true)) 300).call 3 [.int .i64 292] (Go.Cln.St.start 0 .leaf [])).map (fun r => (r.1, r.2.obl)) = some (.bool true, True) := by kernel_rfl
theorem at293 : ((Go.Cln.mk Tryz.prog (Go.Cln.Given.one 6 (.bool true)) 300).call 3 [.int .i64 293] (Go.Cln.St.start 0 .leaf [])).map (fun r => (r.1, r.2.obl)) = some (.bool true, True) := by kernel_rfl
theorem at294 : ((Go.Cln.mk Tryz.prog (Go.Cln.Given.one 6 (.bool true)) 300).call 3 [.int .i64 294] (Go.Cln.St.start 0 .leaf [])).map (fun r => (r.1, r.2.obl)) = some (.bool true, True) := by kernel_rfl
theorem at295 : ((Go.Cln.mk Tryz.prog (Go.Cln.Given.one 6 (.bool true)) 300).call 3 [.int .i64 295] (Go.Cln.St.start 0 .leaf [])).map (fun r => (r.1, r.2.obl)) = some (.bool true, True) := by kernel_rfl
theorem at296 : ((Go.Cln.mk Tryz.prog (Go.Cln.Given.one 6 (.bool true)) 300).call 3 [.int .i64 296] (Go.Cln.St.start 0 .leaf [])).map (fun r => (r.1, r.2.obl)) = some (.bool true, True) := by kernel_rfl
theorem at297 : ((Go.Cln.mk Tryz.prog (Go.Cln.Given.one 6 (.bool true)) 300).call 3 [.int .i64 297] (Go.Cln.St.start 0 .leaf [])).map (fun r => (r.1, r.2.obl)) = some (.bool true, True) := by kernel_rfl
theorem at298 : ((Go.Cln.mk Tryz.prog (Go.Cln.Given.one 6 (.bool true)) 300).call 3 [.int .i64 298] (Go.Cln.St.start 0 .leaf [])).map (fun r => (r.1, r.2.obl)) = some (.bool true, True) := by kernel_rfl
theorem at299 : ((Go.Cln.mk Tryz.prog (Go.Cln.Given.one 6 (.bool true)) 300).call 3 [.int .i64 299] (Go.Cln.St.start 0 .leaf [])).map (fun r => (r.1, r.2.obl)) = some (.bool true, True) := by kernel_rfl
theorem at300 : ((Go.Cln.mk Tryz.prog (Go.Cln.Given.one 6 (.bool true)) 300).call 3 [.int .i64 300] (Go.Cln.St.start 0 .leaf [])).map (fun r => (r.1, r.2.obl)) = some (.bool true, True) := by kernel_rfl
theorem at301 : ((Go.Cln.mk Tryz.prog (Go.Cln.Given.one 6 (.bool true)) 300).call 3 [.int .i64 301] (Go.Cln.St.start 0 .leaf [])).map (fun r => (r.1, r.2.obl)) = some (.bool true, True) := by kernel_rfl
theorem at302 : ((Go.Cln.mk Tryz.prog (Go.Cln.Given.one 6 (.bool true)) 300).call 3 [.int .i64 302] (Go.Cln.St.start 0 .leaf [])).map (fun r => (r.1, r.2.obl)) = some (.bool true, True) := by kernel_rfl
theorem at303 : ((Go.Cln.mk Tryz.prog (Go.Cln.Given.one 6 (.bool true)) 300).call 3 [.int .i64 303] (Go.Cln.St.start 0 .leaf [])).map (fun r => (r.1, r.2.obl)) = some (.bool true, True) := by kernel_rfl
theorem at304 : ((Go.Cln.mk Tryz.prog (Go.Cln.Given.one 6 (.bool true)) 300).call 3 [.int .i64 304] (Go.Cln.St.start 0 .leaf [])).map (fun r => (r.1, r.2.obl)) = some (.bool true, True) := by kernel_rfl
theorem at310 : ((Go.Cln.mk Tryz.prog (Go.Cln.Given.one 6 (.bool true)) 300).call 3 [.int .i64 310] (Go.Cln.St.start 0 .leaf [])).map (fun r => (r.1, r.2.obl)) = some (.bool true, True) := by kernel_rfl
theorem at311 : ((Go.Cln.mk Tryz.prog (Go.Cln.Given.one 6 (.bool true)) 300).call 3 [.int .i64 311] (Go.Cln.St.start 0 .leaf [])).map (fun r => (r.1, r.2.obl)) = some (.bool true, True) := by kernel_rfl
theorem other (a : Int) : ((Go.Cln.mk Tryz.prog (Go.Cln.Given.one 6 (.bool true)) 300).call 3 [.int .i64 a] (Go.Cln.St.start 0 .leaf [some false, some false, some false, some false, some false, some false, some false, some false, some false, some false, some false, some false, some false, some false, some false, some false, some false, some false, some false, some false, some false, some false, some false, some false, some false, some false, some false, some false, some false, some false, some false, some false, some false, some false, some false, some false, some false, some false, some false, some false, some false, some false, some false, some false, some false, some false, some false, some false, some false, some false, some false, some false])).map (fun r => (r.1, r.2.obl)) = some (.bool true, ((((((((((((((((((((((((((((((((((((((((((((((((((((True ∧ decide (a = 270) = false) ∧ decide (a = 271) = false) ∧ decide (a = 311) = false) ∧ decide (a = 310) = false) ∧ decide (a = 280) = false) ∧ decide (a = 272) = false) ∧ decide (a = 281) = false) ∧ decide (a = 285) = false) ∧ decide (a = 283) = false) ∧ decide (a = 284) = false) ∧ decide (a = 282) = false) ∧ decide (a = 290) = false) ∧ decide (a = 293) = false) ∧ decide (a = 300) = false) ∧ decide (a = 301) = false) ∧ decide (a = 303) = false) ∧ decide (a = 304) = false) ∧ decide (a = 291) = false) ∧ decide (a = 299) = false) ∧ decide (a = 292) = false) ∧ decide (a = 294) = false) ∧ decide (a = 295) = false) ∧ decide (a = 297) = false) ∧ decide (a = 298) = false) ∧ decide (a = 302) = false) ∧ decide (a = 296) = false) ∧ decide (a = 270) = false) ∧ decide (a = 271) = false) ∧ decide (a = 280) = false) ∧ decide (a = 310) = false) ∧ decide (a = 311) = false) ∧ decide (a = 272) = false) ∧ decide (a = 281) = false) ∧ decide (a = 285) = false) ∧ decide (a = 283) = false) ∧ decide (a = 284) = false) ∧ decide (a = 282) = false) ∧ decide (a = 290) = false) ∧ decide (a = 293) = false) ∧ decide (a = 300) = false) ∧ decide (a = 301) = false) ∧ decide (a = 303) = false) ∧ decide (a = 304) = false) ∧ decide (a = 291) = false) ∧ decide (a = 299) = false) ∧ decide (a = 292) = false) ∧ decide (a = 294) = false) ∧ decide (a = 295) = false) ∧ decide (a = 297) = false) ∧ decide (a = 298) = false) ∧ decide (a = 302) = false) ∧ decide (a = 296) = false)) := by kernel_rfl
theorem walk (W : World) (a0 : Int) (w0 : (Lit.int .i64 a0).wf = true) :
    Calls Tryz.prog 3 #[.int .i64 a0] W fun e w' => e = .returned (.bool true) ∧ Below W.heap.size W w' := by
  have K := Go.Cln.GivenOk.one (P := Tryz.prog) (f := 6) (v := .bool true) rfl works
  by_cases h270 : a0 = 270
  · subst h270; exact Go.Cln.ran pg K at270 trivial rfl rfl W
  by_cases h271 : a0 = 271
  · subst h271; exact Go.Cln.ran pg K at271 trivial rfl rfl W
  by_cases h272 : a0 = 272
  · subst h272; exact Go.Cln.ran pg K at272 trivial rfl rfl W
  by_cases h280 : a0 = 280
  · subst h280; exact Go.Cln.ran pg K at280 trivial rfl rfl W
  by_cases h281 : a0 = 281
  · subst h281; exact Go.Cln.ran pg K at281 trivial rfl rfl W
  by_cases h282 : a0 = 282
  · subst h282; exact Go.Cln.ran pg K at282 trivial rfl rfl W
  by_cases h283 : a0 = 283
  · subst h283; exact Go.Cln.ran pg K at283 trivial rfl rfl W
  by_cases h284 : a0 = 284
  · subst h284; exact Go.Cln.ran pg K at284 trivial rfl rfl W
  by_cases h285 : a0 = 285
  · subst h285; exact Go.Cln.ran pg K at285 trivial rfl rfl W
  by_cases h290 : a0 = 290
  · subst h290; exact Go.Cln.ran pg K at290 trivial rfl rfl W
  by_cases h291 : a0 = 291
  · subst h291; exact Go.Cln.ran pg K at291 trivial rfl rfl W
  by_cases h292 : a0 = 292
  · subst h292; exact Go.Cln.ran pg K at292 trivial rfl rfl W
  by_cases h293 : a0 = 293
  · subst h293; exact Go.Cln.ran pg K at293 trivial rfl rfl W
  by_cases h294 : a0 = 294
  · subst h294; exact Go.Cln.ran pg K at294 trivial rfl rfl W
  by_cases h295 : a0 = 295
  · subst h295; exact Go.Cln.ran pg K at295 trivial rfl rfl W
  by_cases h296 : a0 = 296
  · subst h296; exact Go.Cln.ran pg K at296 trivial rfl rfl W
  by_cases h297 : a0 = 297
  · subst h297; exact Go.Cln.ran pg K at297 trivial rfl rfl W
  by_cases h298 : a0 = 298
  · subst h298; exact Go.Cln.ran pg K at298 trivial rfl rfl W
  by_cases h299 : a0 = 299
  · subst h299; exact Go.Cln.ran pg K at299 trivial rfl rfl W
  by_cases h300 : a0 = 300
  · subst h300; exact Go.Cln.ran pg K at300 trivial rfl rfl W
  by_cases h301 : a0 = 301
  · subst h301; exact Go.Cln.ran pg K at301 trivial rfl rfl W
  by_cases h302 : a0 = 302
  · subst h302; exact Go.Cln.ran pg K at302 trivial rfl rfl W
  by_cases h303 : a0 = 303
  · subst h303; exact Go.Cln.ran pg K at303 trivial rfl rfl W
  by_cases h304 : a0 = 304
  · subst h304; exact Go.Cln.ran pg K at304 trivial rfl rfl W
  by_cases h310 : a0 = 310
  · subst h310; exact Go.Cln.ran pg K at310 trivial rfl rfl W
  by_cases h311 : a0 = 311
  · subst h311; exact Go.Cln.ran pg K at311 trivial rfl rfl W
  exact Go.Cln.ran pg K (other a0) (by simp only [h270, h271, h272, h280, h281, h282, h283, h284, h285, h290, h291, h292, h293, h294, h295, h296, h297, h298, h299, h300, h301, h302, h303, h304, h310, h311, decide_false, and_self]) rfl rfl W

set_option maxRecDepth 100000 in
theorem lifted (os : Os) (started : os.Started) (H : Type) (enc : TypeId × Value → H) :
    ReturnsInHanded {} Tryz.checked os 3 .any (Rows.msgNoticesSpec.pre6 enc Tryz.prog Tryz.f3 Rows.msgNoticesRow.domain false) (Rows.msgNoticesSpec.post enc Tryz.prog Tryz.f3 false true false false) := by
  refine returnsInHanded_of_change (C := Tryz.checked) own started (by kernel_rfl) Tryz.func3
    (ChangeSpec.witness6 (enc := enc) (C := Tryz.checked) false ⟨#[], #[.int .i64 0], []⟩ 8 (by kernel_rfl) (by kernel_rfl) (by kernel_rfl) (by kernel_rfl)) ?_
  intro W base args ds gs before hval0 hW hcnd _
  have hval : ∀ (j : Nat) t v, Tryz.f3.params[j]? = some t → args[j]? = some v → Value.okWide Tryz.prog W .any base t v := hval0
  have hW' := hW
  obtain ⟨p, q, hA0, hV, rfl, hfz, hnd⟩ := hW
  have hA : DataW.TrodAll enc Tryz.prog W 0 (fun _ => true) true Tryz.f3.params.toList args.toList ds p := hA0
  rw [Tryz.params3] at hA hval
  obtain ⟨v0, vs0, d0, ds0, p0, q0, hargs, rfl, rfl, h0, r0⟩ := trodAll_cons hA
  obtain ⟨rfl, rfl, rfl⟩ := trodAll_nil r0
  obtain rfl : args = #[v0] := by cases args; simp_all
  obtain ⟨rfl, rfl⟩ := trodVars_none hV
  have k0 := h0
  have lt0 : ∀ x ∈ p0, x.block < W.heap.size := by obtain ⟨m, hm⟩ := k0; exact DataW.trod_lt m _ _ _ hm
  obtain ⟨a0, rfl, rfl, rfl, w0⟩ := open_int Tryz.underlying3 (hval 0 3 v0 rfl rfl) h0
  clear hA0 hval0
  refine (walk W a0 w0).mono fun e W' ⟨he, bel⟩ => ?_
  subst he
  exact ⟨_, rfl, _, _, _, [], _, [], hW', trodAll_mk1 (shut_bool Tryz.underlying4 _), (trodAll_cons_mk (Below.trod laidOut (by kernel_rfl) (of_decide_eq_true (by kernel_rfl)) k0 bel lt0) trodAll_mk0), rfl, bel.frame _, fun h => by cases h⟩

theorem over : Rows.msgNoticesRow.holds Tryz.pinned (OpenSpec.ofChange Rows.msgNoticesSpec) :=
  OpenClaim.holds_of_wide 3 Tryz.f3 rfl rfl rfl rfl rfl rfl rfl ⟨rfl, rfl, rfl, rfl, rfl⟩ rfl rfl rfl rfl rfl (by kernel_rfl) Tryz.func3 (by kernel_rfl)
    (of_decide_eq_true (by kernel_rfl)) (by unfold Func.isWrapper; first | (rw [if_pos (by decide +kernel)]; kernel_rfl) | (rw [if_neg (by decide +kernel)]; exact ⟨rfl, rfl⟩))
    (fun os started H enc _ => lifted os started H enc)

end msgNotices
theorem msgNotices_holds : Rows.MsgNoticesSaid := msgNotices.over
end Go.Proofs.YtpplghkjadogfabGreat
