/- Read off the code by the clean reading. -/
import Derived.Test.YtiangelmpnnijaaClnFe
set_option linter.unusedVariables false
set_option linter.unusedSimpArgs false
set_option linter.deprecated false
set_option maxRecDepth 100000
namespace Go.Proofs.Ytiangelmpnnijaa
open Go.ChangeShapes Go.WideShapes Go.ChangeAt Go.RowKit Go.Cln
namespace ff
open fr fc fe
set_option linter.unusedVariables false
noncomputable section
def xW (W : World) (b o : Nat) : BX := ⟨worldB W, fun i => actsI W b (o + i * 2), fun i => rowQ (actsV W b (o + i * 2 + 1)), fun i => rowM (actsV W b (o + i * 2 + 1)), fun i => rowC (actsV W b (o + i * 2 + 1))⟩
def ksF : List FK := [.int .i64, .row]
theorem Bx.of {W : World} {b o n c : Nat} {a w : Int} (h : RecsAt W b o n ksF) (hn : n ≤ 6) (hw : 0 ≤ w ∧ w < 256) : Bx (xW W b o) ⟨n, c, a, w⟩ :=
  ⟨hn, fun i hi => ((h i hi 1 .row rfl).row).1.1, fun i hi => ((h i hi 1 .row rfl).row).1.2, hw⟩
theorem bentW {W : World} {b o n c : Nat} {a w : Int} (h0 : 0 < n) (hc : n ≤ c) (h : RecsAt W b o n ksF) (hw : 0 ≤ w ∧ w < 256) :
    Calls Try.prog 4 #[.slice (some ⟨b, o, none⟩) n c, .int .i64 a, .int .u8 w] W fun e w' => e = .returned (.bool true) ∧ Go.RowKit.Below W.heap.size W w' := by
  have st := fun orc => recs_start (F := (xW W b o).F) (row := (xW W b o).row) (ks := ksF) (k0 := .int .i64) (FamIn.bytes W) rfl (fun _ => rfl) h0 rfl h orc
  by_cases h6 : nI n > 6
  · obtain ⟨ρ, g1, g2⟩ := st [some true]
    exact ranG pg (KF_ok eF zf) (ρ := ρ) (big (xW W b o) ⟨n, c, a, w⟩) ⟨trivial, decide_eq_true h6⟩ rfl g1 (Go.Cln.VL.cons (g2 n c hc) (Go.Cln.VL.cons (.of_flat rfl) (Go.Cln.VL.cons (.of_flat rfl) Go.Cln.VL.nil)))
  · have hX : Bx (xW W b o) ⟨n, c, a, w⟩ := Bx.of h (by unfold nI at h6; omega) hw
    obtain ⟨ρ, g1, g2⟩ := st []
    have hf := fn4
    cases e : Try.prog.funcs[4]? with
    | none => rw [e] at hf; cases hf
    | some f =>
      rw [e] at hf
      simp only [Option.map_some, Option.some.injEq, Prod.mk.injEq] at hf
      obtain ⟨f1, f2, f3⟩ := hf
      have hb := bodyT hX
      have key : ∀ (l : List Value), l = aL ⟨n, c, a, w⟩ → StepG Try.prog none { St.start 2 (Tr.ofL (hB (xW W b o) ⟨n, c, a, w⟩)) [] with tmps := l ++ List.replicate (f.ntmps - l.length) undef, defers := [] } bodyC { St.start 2 (Tr.ofL (hB (xW W b o) ⟨n, c, a, w⟩)) [] with tmps := l ++ List.replicate (f.ntmps - l.length) undef, defers := [] } Fin := by
        rintro l rfl
        rw [f3]
        exact hb
      exact calls_ofG (args := aL ⟨n, c, a, w⟩) (args' := [.slice (some ⟨b, o, none⟩) n c, .int .i64 a, .int .u8 w]) (ρ := ρ) e f1 f2 (key _ rfl) g1 (Go.Cln.VL.cons (g2 n c hc) (Go.Cln.VL.cons (.of_flat rfl) (Go.Cln.VL.cons (.of_flat rfl) Go.Cln.VL.nil)))
theorem frameBent (W : World) (a0 : Option Addr) (n0 c0 : Nat) (s0 : (a0 = none ∧ n0 = 0 ∧ c0 = 0) ∨ ∃ b o, a0 = some ⟨b, o, none⟩ ∧ n0 ≤ c0 ∧ (c0 : Int) ≤ 9223372036854775807)
    (z0 : n0 = 0 ∨ ∃ (b o : Nat), a0 = some ⟨b, o, none⟩ ∧ RecsAt W b o n0 ksF) (a w : Int) (hw : (Lit.int .u8 w).wf = true) :
    Calls Try.prog 4 #[.slice a0 n0 c0, .int .i64 a, .int .u8 w] W fun e w' => e = .returned (.bool true) ∧ Go.RowKit.Below W.heap.size W w' := by
  have hw2 : 0 ≤ w ∧ w < 256 := by
    have h : IntKind.u8.min ≤ w ∧ w ≤ IntKind.u8.max := by simpa [Lit.wf] using hw
    have e1 : IntKind.u8.min = 0 := by decide
    have e2 : IntKind.u8.max = 255 := by decide
    rw [e1, e2] at h; omega
  have kn := KF_ok eF zf
  by_cases h0 : n0 = 0
  · subst h0
    rcases s0 with ⟨rfl, _, rfl⟩ | ⟨b, o, rfl, hc, _⟩
    · by_cases ha : a ≥ 0
      · exact ranG pg kn (ρ := fun _ => ⟨0, 0, 0⟩) (nna a w) ⟨⟨trivial, decide_eq_true ha⟩, decide_eq_false (by unfold nI; omega)⟩ rfl (named_hs 0 _ _ W) (Go.Cln.VL.cons (VR.same rfl) (Go.Cln.VL.cons (.of_flat rfl) (Go.Cln.VL.cons (.of_flat rfl) Go.Cln.VL.nil)))
      · exact ranG pg kn (ρ := fun _ => ⟨0, 0, 0⟩) (nnb a w) ⟨trivial, decide_eq_false ha⟩ rfl (named_hs 0 _ _ W) (Go.Cln.VL.cons (VR.same rfl) (Go.Cln.VL.cons (.of_flat rfl) (Go.Cln.VL.cons (.of_flat rfl) Go.Cln.VL.nil)))
    · by_cases ha : a ≥ 0
      · exact ranG pg kn (ρ := fun _ => ⟨b, o, 0⟩) (nza a w c0) ⟨⟨trivial, decide_eq_true ha⟩, decide_eq_false (by unfold nI; omega)⟩ rfl (named_hs 1 _ _ W) (Go.Cln.VL.cons (VR.unread (a := ⟨b, o, none⟩) (by decide) rfl rfl hc) (Go.Cln.VL.cons (.of_flat rfl) (Go.Cln.VL.cons (.of_flat rfl) Go.Cln.VL.nil)))
      · exact ranG pg kn (ρ := fun _ => ⟨b, o, 0⟩) (nzb a w c0) ⟨trivial, decide_eq_false ha⟩ rfl (named_hs 1 _ _ W) (Go.Cln.VL.cons (VR.unread (a := ⟨b, o, none⟩) (by decide) rfl rfl hc) (Go.Cln.VL.cons (.of_flat rfl) (Go.Cln.VL.cons (.of_flat rfl) Go.Cln.VL.nil)))
  · rcases z0 with h | ⟨b, o, rfl, h⟩
    · exact absurd h h0
    · rcases s0 with ⟨h, _⟩ | ⟨_, _, _, hc, _⟩
      · cases h
      · exact bentW (by omega) hc h hw2
end
end ff
end Go.Proofs.Ytiangelmpnnijaa
