/-
  The head of a segment sum: laid byte by byte it is the one that the document lays, and there is none for a length past sixteen bits.
-/
import Derived.Test.YtmiadmfeadcoaabRows
import Derived.Test.YtmiadmfeadcoaabClnP27
import Derived.Test.YtmiadmfeadcoaabShut
import Derived.WalkKit
import Derived.ProofKit
import Derived.ShutString
import Derived.ChangeOld
import Derived.Below
import Derived.IntWalk
namespace Go.Proofs.Ytmiadmfeadcoaab
namespace sumHeads
open Go.ChangeShapes Go.WideShapes Go.ChangeAt Go.RowKit
open Go.ChangeMaps (open_string shut_string)
set_option linter.unusedVariables false

theorem own : ownKnob Try.prog.godebug = none := by kernel_rfl
theorem laidOut : laidOutB Try.prog = true := by kernel_rfl

set_option linter.unusedSimpArgs false
set_option maxRecDepth 100000
theorem pg : Go.Cln.PG Try.prog := Go.Cln.PG.of (by decide +kernel)
theorem worksRuns : ((Go.Cln.mk Try.prog Go.Cln.Given.nothing 200).call 11 [] (Go.Cln.St.start 0 .leaf [])).map (fun r => (r.1, r.2.obl)) = some (.bool true, True) := by kernel_rfl
theorem works (W : World) : Calls Try.prog 11 #[] W fun e w' => e = .returned (.bool true) ∧ Below W.heap.size W w' := Go.Cln.ran pg (Go.Cln.GivenOk.nothing _) worksRuns trivial rfl rfl W
def s1 (a b c : Int) : ByteArray := ⟨#[UInt8.ofNat (IntKind.u8.wrap (((a.fdiv 256).fdiv 256).fdiv 256)).toNat, UInt8.ofNat (IntKind.u8.wrap ((a.fdiv 256).fdiv 256)).toNat, UInt8.ofNat (IntKind.u8.wrap (a.fdiv 256)).toNat, UInt8.ofNat (IntKind.u8.wrap a).toNat, UInt8.ofNat (IntKind.u8.wrap (((b.fdiv 256).fdiv 256).fdiv 256)).toNat, UInt8.ofNat (IntKind.u8.wrap ((b.fdiv 256).fdiv 256)).toNat, UInt8.ofNat (IntKind.u8.wrap (b.fdiv 256)).toNat, UInt8.ofNat (IntKind.u8.wrap b).toNat, UInt8.ofNat (Int.toNat 0), UInt8.ofNat (Int.toNat 6), UInt8.ofNat (IntKind.u8.wrap ((IntKind.u16.wrap c).fdiv 256)).toNat, UInt8.ofNat (IntKind.u8.wrap (IntKind.u16.wrap c)).toNat]⟩
def s2 (a b c : Int) : ByteArray := ⟨#[UInt8.ofNat (IntKind.u8.wrap ((a.fdiv 16777216).tmod 256)).toNat, UInt8.ofNat (IntKind.u8.wrap ((a.fdiv 65536).tmod 256)).toNat, UInt8.ofNat (IntKind.u8.wrap ((a.fdiv 256).tmod 256)).toNat, UInt8.ofNat (IntKind.u8.wrap ((a.fdiv 1).tmod 256)).toNat, UInt8.ofNat (IntKind.u8.wrap ((b.fdiv 16777216).tmod 256)).toNat, UInt8.ofNat (IntKind.u8.wrap ((b.fdiv 65536).tmod 256)).toNat, UInt8.ofNat (IntKind.u8.wrap ((b.fdiv 256).tmod 256)).toNat, UInt8.ofNat (IntKind.u8.wrap ((b.fdiv 1).tmod 256)).toNat, UInt8.ofNat (Int.toNat 0), UInt8.ofNat (Int.toNat 6), UInt8.ofNat (IntKind.u8.wrap (IntKind.i64.wrap (c.tdiv 256))).toNat, UInt8.ofNat (IntKind.u8.wrap (c.tmod 256)).toNat]⟩
theorem runs1 (a b c : Int) : ((Go.Cln.mk Try.prog (Go.Cln.Given.one 11 (.bool true)) 200).call 5 [.int .u32 a, .int .u32 b, .int .i64 c] (Go.Cln.St.start 0 .leaf [some true, none, none, none, some true])).map (fun r => (r.1, r.2.obl)) = some (.bool true, ((True ∧ decide (c < 0) = true) ∧ decide (c < 0) = true)) := by kernel_rfl
theorem runs2 (a b c : Int) : ((Go.Cln.mk Try.prog (Go.Cln.Given.one 11 (.bool true)) 200).call 5 [.int .u32 a, .int .u32 b, .int .i64 c] (Go.Cln.St.start 0 .leaf [some false, none, none, some true, some false, none, none, some true])).map (fun r => (r.1, r.2.obl)) = some (.bool true, ((((True ∧ decide (c < 0) = false) ∧ decide (65535 < c) = true) ∧ decide (c < 0) = false) ∧ decide (65535 < c) = true)) := by kernel_rfl
theorem runs3 (a b c : Int) : ((Go.Cln.mk Try.prog (Go.Cln.Given.one 11 (.bool true)) 200).call 5 [.int .u32 a, .int .u32 b, .int .i64 c] (Go.Cln.St.start 0 .leaf [some false, none, none, some false, none, none, none, none, none, none, none, none, none, none, none, none, none, none, none, none, none, none, none, none, none, none, none, none, none, none, none, none, none, none, none, none, none, none, none, none, none, none, none, none, none, none, none, none, some false, none, none, some false, none, none, none, none, none, none, none, none, none, none, some true, some true, some true, some true])).map (fun r => (r.1, r.2.obl)) = some (.bool true, ((((((((True ∧ decide (c < 0) = false) ∧ decide (65535 < c) = false) ∧ decide (c < 0) = false) ∧ decide (65535 < c) = false) ∧ ((s1 a b c).toList == (s2 a b c).toList) = true) ∧ ((s1 a b c).toList == (s2 a b c).toList) = true) ∧ ((s1 a b c).toList == (s2 a b c).toList) = true) ∧ ((s1 a b c).toList == (s2 a b c).toList) = true)) := by kernel_rfl
theorem wf_in {k : IntKind} {a : Int} (h : (Lit.int k a).wf = true) : k.min ≤ a ∧ a ≤ k.max := by simpa [Lit.wf] using h
theorem byte4 {a : Int} (h0 : 0 ≤ a) : IntKind.u8.wrap (((a.fdiv 256).fdiv 256).fdiv 256) = IntKind.u8.wrap ((a.fdiv 16777216).tmod 256) ∧ IntKind.u8.wrap ((a.fdiv 256).fdiv 256) = IntKind.u8.wrap ((a.fdiv 65536).tmod 256) ∧
    IntKind.u8.wrap (a.fdiv 256) = IntKind.u8.wrap ((a.fdiv 256).tmod 256) ∧ IntKind.u8.wrap a = IntKind.u8.wrap ((a.fdiv 1).tmod 256) := by
  simp only [Int.fdiv_eq_ediv_of_nonneg _ (show (0 : Int) ≤ 256 by decide), Int.fdiv_eq_ediv_of_nonneg _ (show (0 : Int) ≤ 16777216 by decide), Int.fdiv_eq_ediv_of_nonneg _ (show (0 : Int) ≤ 65536 by decide), Int.fdiv_eq_ediv_of_nonneg _ (show (0 : Int) ≤ 1 by decide)]
  rw [Int.tmod_eq_emod_of_nonneg (by omega), Int.tmod_eq_emod_of_nonneg (by omega), Int.tmod_eq_emod_of_nonneg (by omega), Int.tmod_eq_emod_of_nonneg (by omega)]
  simp only [IntKind.wrap_u8]
  omega
theorem same {a b c : Int} (ha : 0 ≤ a) (hb : 0 ≤ b) (hc : 0 ≤ c) (h2 : c ≤ 65535) : s1 a b c = s2 a b c := by
  obtain ⟨a1, a2, a3, a4⟩ := byte4 ha
  obtain ⟨b1, b2, b3, b4⟩ := byte4 hb
  have c0 : IntKind.u16.wrap c = c := by simp only [IntKind.wrap_u16]; omega
  have c1 : IntKind.u8.wrap (c.fdiv 256) = IntKind.u8.wrap (IntKind.i64.wrap (c.tdiv 256)) := by
    rw [Int.fdiv_eq_ediv_of_nonneg _ (show (0 : Int) ≤ 256 by decide), Int.tdiv_eq_ediv_of_nonneg hc]
    simp only [IntKind.wrap_u8, IntKind.wrap_i64]; omega
  have c2 : IntKind.u8.wrap c = IntKind.u8.wrap (c.tmod 256) := by
    rw [Int.tmod_eq_emod_of_nonneg hc]; simp only [IntKind.wrap_u8]; omega
  unfold s1 s2
  rw [c0, a1, a2, a3, a4, b1, b2, b3, b4, c1, c2]
theorem walk (W : World) (a0 : Int) (w0 : (Lit.int .u32 a0).wf = true) (a1 : Int) (w1 : (Lit.int .u32 a1).wf = true) (a2 : Int) (w2 : (Lit.int .i64 a2).wf = true) :
    Calls Try.prog 5 #[.int .u32 a0, .int .u32 a1, .int .i64 a2] W fun e w' => e = .returned (.bool true) ∧ Below W.heap.size W w' := by
  obtain ⟨b0, b1⟩ := wf_in w0
  obtain ⟨b2, b3⟩ := wf_in w1
  have m : IntKind.u32.min = 0 := by decide
  rw [m] at b0 b2
  have K := Go.Cln.GivenOk.one (P := Try.prog) (f := 11) (v := .bool true) rfl works
  clear w0 w1 w2
  by_cases h1 : a2 < 0
  · exact Go.Cln.ran pg K (runs1 a0 a1 a2) (by simp [h1]) rfl rfl W
  · by_cases h2 : 65535 < a2
    · exact Go.Cln.ran pg K (runs2 a0 a1 a2) (by simp [h1, h2]) rfl rfl W
    · have e : ((s1 a0 a1 a2).toList == (s2 a0 a1 a2).toList) = true := by rw [same b0 b2 (by omega) (by omega)]; exact BEq.rfl
      exact Go.Cln.ran pg K (runs3 a0 a1 a2) (by simp [h1, h2, e]) rfl rfl W

set_option maxRecDepth 100000 in
theorem lifted (os : Os) (started : os.Started) (H : Type) (enc : TypeId × Value → H) :
    ReturnsInHanded {} Try.checked os 5 .any (Rows.sumHeadsSpec.pre6 enc Try.prog Try.f5 Rows.sumHeadsRow.domain false) (Rows.sumHeadsSpec.post enc Try.prog Try.f5 false true false false) := by
  refine returnsInHanded_of_change (C := Try.checked) own started (by kernel_rfl) Try.func5
    (ChangeSpec.witness6 (enc := enc) (C := Try.checked) false ⟨#[], #[.int .u32 0, .int .u32 0, .int .i64 0], []⟩ 8 (by kernel_rfl) (by kernel_rfl) (by kernel_rfl) (by kernel_rfl)) ?_
  intro W base args ds gs before hval0 hW hcnd _
  have hval : ∀ (j : Nat) t v, Try.f5.params[j]? = some t → args[j]? = some v → Value.okWide Try.prog W .any base t v := hval0
  have hW' := hW
  obtain ⟨p, q, hA0, hV, rfl, hfz, hnd⟩ := hW
  have hA : DataW.TrodAll enc Try.prog W 0 (fun _ => true) true Try.f5.params.toList args.toList ds p := hA0
  rw [Try.params5] at hA hval
  obtain ⟨v0, vs0, d0, ds0, p0, q0, hargs, rfl, rfl, h0, r0⟩ := trodAll_cons hA
  obtain ⟨v1, vs1, d1, ds1, p1, q1, rfl, rfl, rfl, h1, r1⟩ := trodAll_cons r0
  obtain ⟨v2, vs2, d2, ds2, p2, q2, rfl, rfl, rfl, h2, r2⟩ := trodAll_cons r1
  obtain ⟨rfl, rfl, rfl⟩ := trodAll_nil r2
  obtain rfl : args = #[v0, v1, v2] := by cases args; simp_all
  obtain ⟨rfl, rfl⟩ := trodVars_none hV
  have k0 := h0
  have lt0 : ∀ x ∈ p0, x.block < W.heap.size := by obtain ⟨m, hm⟩ := k0; exact DataW.trod_lt m _ _ _ hm
  have k1 := h1
  have lt1 : ∀ x ∈ p1, x.block < W.heap.size := by obtain ⟨m, hm⟩ := k1; exact DataW.trod_lt m _ _ _ hm
  have k2 := h2
  have lt2 : ∀ x ∈ p2, x.block < W.heap.size := by obtain ⟨m, hm⟩ := k2; exact DataW.trod_lt m _ _ _ hm
  obtain ⟨a0, rfl, rfl, rfl, w0⟩ := open_int Try.underlying35 (hval 0 35 v0 rfl rfl) h0
  obtain ⟨a1, rfl, rfl, rfl, w1⟩ := open_int Try.underlying35 (hval 1 35 v1 rfl rfl) h1
  obtain ⟨a2, rfl, rfl, rfl, w2⟩ := open_int Try.underlying3 (hval 2 3 v2 rfl rfl) h2
  clear hA0 hval0
  refine (walk W a0 w0 a1 w1 a2 w2).mono fun e W' ⟨he, bel⟩ => ?_
  subst he
  exact ⟨_, rfl, _, _, _, [], _, [], hW', trodAll_mk1 (shut_bool Try.underlying4 _), (trodAll_cons_mk (Below.trod laidOut (by kernel_rfl) (of_decide_eq_true (by kernel_rfl)) k0 bel lt0) (trodAll_cons_mk (Below.trod laidOut (by kernel_rfl) (of_decide_eq_true (by kernel_rfl)) k1 bel lt1) (trodAll_cons_mk (Below.trod laidOut (by kernel_rfl) (of_decide_eq_true (by kernel_rfl)) k2 bel lt2) trodAll_mk0))), rfl, bel.frame _, fun h => by cases h⟩

theorem over : Rows.sumHeadsRow.holds Try.pinned (OpenSpec.ofChange Rows.sumHeadsSpec) :=
  OpenClaim.holds_of_wide 5 Try.f5 rfl rfl rfl rfl rfl rfl rfl ⟨rfl, rfl, rfl, rfl, rfl⟩ rfl rfl rfl rfl rfl (by kernel_rfl) Try.func5 (by kernel_rfl)
    (of_decide_eq_true (by kernel_rfl)) (by unfold Func.isWrapper; first | (rw [if_pos (by decide +kernel)]; kernel_rfl) | (rw [if_neg (by decide +kernel)]; exact ⟨rfl, rfl⟩))
    (fun os started H enc _ => lifted os started H enc)

end sumHeads
theorem sumHeads_holds : Rows.SumHeadsSaid := sumHeads.over
end Go.Proofs.Ytmiadmfeadcoaab
