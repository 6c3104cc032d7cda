/- A determinate reading of Go's code: calls on rows that are looked at alone; functions whose answers are known. -/
import Derived.Test.YtpfmilkddapfiaaClnP26
import Derived.WideShapes
namespace Go.Cln
set_option linter.unusedVariables false
set_option linter.unusedSimpArgs false
set_option linter.deprecated false
theorem ranG {P : Program} (G : PG P) {K : Given} (hK : GivenOk P K) {n next : Nat} {heap : Tr} {f : FuncId} {args args' : List Value} {orc : List (Option Bool)} {v : Value} {p : Prop} {ρ : Nat → PB} {W : World}
    (hr : ((mk P K n).call f args (St.start next heap orc)).map (fun r => (r.1, r.2.obl)) = some (v, p)) (hp : p) (hv : flat v = true)
    (hs : Hs (St.start next heap orc) ρ W) (ha : VL (Dm (St.start next heap orc)) ρ args args') :
    Calls P f args'.toArray W fun e w' => e = .returned v ∧ Go.RowKit.Below W.heap.size W w' := by
  cases hc : (mk P K n).call f args (St.start next heap orc) with
  | none => rw [hc] at hr; simp at hr
  | some r =>
    obtain ⟨v1, s'⟩ := r
    rw [hc] at hr
    simp only [Option.map_some, Option.some.injEq, Prod.mk.injEq] at hr
    obtain ⟨rfl, hq⟩ := hr
    have := (mk_ok G hK n).okCall hc (by rw [hq]; exact hp) 0 ρ W args' hs ha
    refine (callsIn_wide.1 this).mono ?_
    rintro e w' ⟨v', ρ', rfl, g1, g2, g3⟩
    have : v' = v1 := g1.eq_flat hv
    refine ⟨by rw [this], ⟨g3.os, g3.tape, g3.output, g3.size, fun k hk => g3.frame k hk fun b o hb hm => ?_⟩⟩
    obtain ⟨⟨h1, _⟩, _⟩ := hs.ob b o hb
    have h2 : next ≤ b := by
      unfold St.may at hm
      rw [Bool.and_eq_true] at hm
      exact of_decide_eq_true hm.1
    exact absurd h1 (Nat.not_lt.2 h2)
def Given.calls (F : FuncId → List Value → Option Value) : Given := { Given.nothing with call := fun f args s => (F f args).map fun v => (v, s) }
theorem VL.eq_flat {N : Nat → Prop} {ρ : Nat → PB} {l l' : List Value} (h : VL N ρ l l') (hf : l.all flat = true) : l' = l :=
  VL.eq_of h fun v hv w hw => hw.eq_flat (List.all_eq_true.1 hf v hv)
theorem GivenOk.calls {P : Program} {F : FuncId → List Value → Option Value} (h : ∀ f args v, F f args = some v → args.all flat = true ∧ flat v = true ∧ ∀ W : World, Calls P f args.toArray W fun e w' => e = .returned v ∧ Go.RowKit.Below W.heap.size W w') :
    GivenOk P (Given.calls F) := by
  refine ⟨fun {g args s s' x} hc => ?_, fun {g args s s' x} hc => ?_, fun hc => by simp [Given.calls, Given.nothing] at hc, fun hc => by simp [Given.calls, Given.nothing] at hc⟩
  · simp only [Given.calls, Option.map_eq_some_iff] at hc
    obtain ⟨v, _, hv⟩ := hc
    cases hv; exact id
  · simp only [Given.calls, Option.map_eq_some_iff] at hc
    obtain ⟨v, hF, hv⟩ := hc
    cases hv
    obtain ⟨h1, h2, h3⟩ := h _ _ _ hF
    intro ho n ρ w args' hs hl
    have : args' = args := hl.eq_flat h1
    subst this
    refine callsIn_wide.2 ((h3 w).mono ?_)
    rintro e w' ⟨rfl, hb⟩
    obtain ⟨g1, g2⟩ := hs.below hb
    exact ⟨_, ρ, rfl, .of_flat h2, g1, g2⟩
open Go.WideShapes in
theorem open_slice {P : Program} {w : World} {r : Reach} {b0 : Nat} {t e : TypeId} {v : Value} (ht : P.underlying t = some (.slice e)) (h : Value.okWide P w r b0 t v) :
    ∃ a n c, v = .slice a n c ∧ ((a = none ∧ n = 0 ∧ c = 0) ∨ ∃ b o, a = some ⟨b, o, none⟩ ∧ n ≤ c ∧ (c : Int) ≤ 9223372036854775807) := by
  obtain ⟨a, n, c, rfl⟩ := okWide_slice ht h
  refine ⟨a, n, c, rfl, ?_⟩
  simp only [Value.okWide, ht, Cell.okWide] at h
  cases a with
  | none =>
    cases n <;> cases c <;> simp_all [Cell.ok]
  | some a =>
    obtain ⟨b, o, s⟩ := a
    simp [Cell.ok, ht, World.has] at h
    obtain ⟨h1, h2, h3⟩ := h
    have hs : s = none := h3.2.1
    exact .inr ⟨b, o, by rw [hs], h1, h2⟩
theorem open_agg {P : Program} {w : World} {r : Reach} {b0 : Nat} {t : TypeId} {v : Value} {ts : List TypeId} (hs : (match P.underlying t with | some (.struct _) | some (.array _ _) => true | _ => false) = true)
    (hts : P.cellTypes P.depth t = some ts) (hn : P.cellsOf t = ts.length) (h : Value.okWide P w r b0 t v) :
    ∃ l : List Value, v = .agg l.toArray ∧ l.length = ts.length ∧ ∀ (i : Nat) (x : Value) (u : TypeId), l[i]? = some x → ts[i]? = some u → Cell.okWide P w r b0 u x := by
  have key : ∃ cs : Array Value, v = .agg cs ∧ cs.size = P.cellsOf t ∧ Row.okWide P w r b0 t cs := by
    unfold Value.okWide at h
    split at h
    · exact h
    · exact h
    · rename_i h1 h2
      split at hs
      · rename_i fs hu; exact absurd hu (h1 _)
      · rename_i n e hu; exact absurd hu (h2 _ _)
      · cases hs
  obtain ⟨cs, rfl, h1, ts', h2, _, h3⟩ := key
  rw [hts] at h2
  cases h2
  refine ⟨cs.toList, by simp, by simpa [hn] using h1, fun i x u hx hu => ?_⟩
  obtain ⟨u', hu', hc⟩ := h3 i x (by rw [← Array.getElem?_toList]; exact hx)
  have hi : i < ts.length := by
    rcases Nat.lt_or_ge i ts.length with h | h
    · exact h
    · simp [List.getElem?_eq_none h] at hu
  rw [Nat.mod_eq_of_lt hi, hu] at hu'
  cases hu'
  exact hc
theorem uncons {l : List Value} {n : Nat} (h : l.length = n + 1) : ∃ x r, l = x :: r ∧ r.length = n := by
  cases l with
  | nil => simp at h
  | cons x r => exact ⟨x, r, rfl, by simpa using h⟩
theorem unnil {l : List Value} (h : l.length = 0) : l = [] := List.eq_nil_of_length_eq_zero h
theorem cell_int {P : Program} {w : World} {r : Reach} {b0 : Nat} {u : TypeId} {x : Value} {k : IntKind} (hu : P.underlying u = some (.int k)) (h : Cell.okWide P w r b0 u x) : ∃ n, x = .int k n ∧ (Lit.int k n).wf = true := by
  simp only [Cell.okWide, hu, Cell.ok] at h
  cases x <;> simp_all [Lit.wf, IntKind.has]
theorem cell_slice {P : Program} {w : World} {r : Reach} {b0 : Nat} {u e : TypeId} {x : Value} (hu : P.underlying u = some (.slice e)) (h : Cell.okWide P w r b0 u x) :
    ∃ a n c, x = .slice a n c ∧ ((a = none ∧ n = 0 ∧ c = 0) ∨ ∃ b o, a = some ⟨b, o, none⟩ ∧ n ≤ c ∧ (c : Int) ≤ 9223372036854775807) :=
  open_slice hu (by simp only [Value.okWide, hu]; exact h)
end Go.Cln
