/- A determinate reading of Go's code: calls whose answer is known already. -/
import Derived.Test.YtpfmilkddapfiaaClnP25
namespace Go.Cln
set_option linter.unusedVariables false
set_option linter.unusedSimpArgs false
set_option linter.deprecated false
structure Told (P : Program) where
  fn : FuncId
  args : List Value
  val : Value
  plain : args.all flat0 = true ∧ flat0 val = true
  runs : ∀ W : World, Calls P fn args.toArray W fun e w' => e = .returned val ∧ Go.RowKit.Below W.heap.size W w'
def Given.one (f : FuncId) (v : Value) : Given := { Given.nothing with call := fun g args s => if g = f then (match args with | [] => some (v, s) | _ => none) else none }
theorem Hs.below {s : St} {ρ : Nat → PB} {w w' : World} (h : Hs s ρ w) (hb : Go.RowKit.Below w.heap.size w w') : Hs s ρ w' ∧ Tra s s ρ ρ w w' := by
  refine ⟨⟨⟨fun x o hx => ?_, h.inj, h.far⟩, h.hid, h.wf⟩, ⟨Nat.le_refl _, fun _ _ => rfl, hb.os, hb.tape, hb.output, hb.size, fun k hk _ => hb.block k hk, fun x o hx hm => .inr ⟨x, o, hx, hm, rfl⟩, rfl, rfl, rfl, fun _ _ => rfl⟩⟩
  obtain ⟨h1, h2⟩ := h.ob x o hx
  exact ⟨h1, h2.congr id (fun q => hb.block _ (h2.lt q)) hb.size fun B hB => hb.block B (h2.farLt hB)⟩
theorem GivenOk.one {P : Program} {f : FuncId} {v : Value} (hv : flat0 v = true) (h : ∀ W : World, Calls P f #[] W fun e w' => e = .returned v ∧ Go.RowKit.Below W.heap.size W w') : GivenOk P (Given.one f v) := by
  refine ⟨fun {g args s s' x} hc => ?_, fun {g args s s' x} hc => ?_, fun hc => by simp [Given.one, Given.nothing] at hc, fun hc => by simp [Given.one, Given.nothing] at hc⟩
  · simp only [Given.one] at hc
    split at hc
    · split at hc
      · cases hc; exact id
      · cases hc
    · cases hc
  · simp only [Given.one] at hc
    split at hc
    · rename_i hg
      split at hc
      · cases hc
        subst hg
        intro ho n ρ w args' hs hl
        have : args' = [] := VL.inv_nil hl
        subst this
        refine callsIn_wide.2 ((h w).mono ?_)
        rintro e w' ⟨rfl, hb⟩
        obtain ⟨g1, g2⟩ := hs.below hb
        exact ⟨_, ρ, rfl, .same hv, g1, g2⟩
      · cases hc
    · cases hc
end Go.Cln
