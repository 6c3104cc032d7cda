/-
  KdfInputs (P6.1): for any context and any length in bits the input that the program makes, or its refusal, is the document's; no condition.
-/
import Derived.Test.YtjogcdimpglpbaaGreatRows
import Derived.WalkKit
import Derived.ProofKit
import Derived.OpenShut
import Derived.ChangeOld
import Derived.Lib.SmallJoins
import Derived.Test.YtjogcdimpglpbaaGreatClnJ1
import Derived.Test.YtjogcdimpglpbaaGreatClnJ2
import Derived.Test.YtjogcdimpglpbaaGreatClnJ3
import Derived.Test.YtjogcdimpglpbaaGreatClnY4
import Derived.Test.YtjogcdimpglpbaaGreatClnP27
import Derived.ShutString
import Derived.Below
import Derived.IntWalk
namespace Go.Proofs.YtjogcdimpglpbaaGreat
open Go.ChangeShapes Go.WideShapes Go.ChangeAt Go.RowKit

variable {H : Type} {enc : TypeId × Value → H} {P : Program}
theorem shut_below {f : Func} {s : ChangeSpec} {W W' : World} {args : Array Value} {v : Value} {ds gs : List (DataW H)} {before pa pv : List MemPlace}
    (whole : DataW.Whole enc P f.params.toList s.vars false W args.toList ds gs before)
    (res : ∀ (b : Nat) (sp : Nat → Bool) (hd : Bool), DataW.TrodAll enc P W' b sp hd f.resultTypes.toList (v.resultList f.resultTypes.size) (s.fn H (ds ++ gs)).results [])
    (arg : ∀ sp : Nat → Bool, (∀ p ∈ before, sp p.block = true) → DataW.TrodAll enc P W' 0 sp true f.params.toList args.toList (s.fn H (ds ++ gs)).args pa)
    (var : ∀ sp : Nat → Bool, (∀ p ∈ before, sp p.block = true) → DataW.TrodVars enc P W' sp s.vars (s.fn H (ds ++ gs)).vars pv)
    (places : before = pa ++ pv) (old : Below W.heap.size W W') : s.post enc P f false true false false W args v W' := by
  have low : ∀ p ∈ before, (fun b => decide (b < W.heap.size)) p.block = true := fun p hp => decide_eq_true (whole.lt p hp)
  exact ⟨ds, gs, before, [], pa, pv, whole, res _ _ _, arg _ low, var _ low, World.keptBut_mono (fun p hp => ⟨hp, Or.inr (List.mem_append.1 (places ▸ hp))⟩) (old.frame (· ∈ before)), fun h => by cases h⟩

theorem u32_in {a : Int} (h : (Lit.int .u32 a).wf = true) : 0 ≤ a ∧ a < 4294967296 := by
  have h1 : IntKind.u32.min ≤ a ∧ a ≤ IntKind.u32.max := by simpa [Lit.wf] using h
  have m1 : IntKind.u32.min = 0 := by decide
  have m2 : IntKind.u32.max = 4294967295 := by decide
  omega
theorem i64_in {a : Int} (h : (Lit.int .i64 a).wf = true) : -9223372036854775808 ≤ a ∧ a ≤ 9223372036854775807 := by
  have h1 : IntKind.i64.min ≤ a ∧ a ≤ IntKind.i64.max := by simpa [Lit.wf] using h
  have m1 : IntKind.i64.min = -9223372036854775808 := by decide
  have m2 : IntKind.i64.max = 9223372036854775807 := by decide
  omega

end Go.Proofs.YtjogcdimpglpbaaGreat
namespace Go.Proofs.YtjogcdimpglpbaaGreat
open Go.ChangeShapes Go.WideShapes Go.ChangeAt Go.RowKit

theorem add_none (b o k : Nat) : Addr.add ⟨b, o, none⟩ k = ⟨b, o + k, none⟩ := by
  by_cases h : k = 0 <;> simp [Addr.add, h]

section
variable {H : Type} {enc : TypeId × Value → H} {P : Program} {w : World} {base : Nat} {spare : Nat → Bool} {held : Bool}

/-- a slice's header, and that it has cells, of any element's type -/
theorem open_cells {t e : TypeId} {r : Reach} {b0 : Nat} {v : Value} {d : DataW H} {ps : List MemPlace} (ht : P.underlying t = some (.slice e)) (hc : 0 < P.cellsOf e)
    (hval : Value.okWide P w r b0 t v) (h : DataW.Trod enc P w base spare held t v d ps) :
    ∃ a n c, v = .slice a n c ∧ n ≤ c ∧ c ≤ maxLen ∧ (n = 0 ∨ ∃ b o, a = some ⟨b, o, none⟩ ∧ b < w.heap.size ∧
      ∀ i, i < n → ∃ cs y m, cs.length = P.cellsOf e ∧ (∀ j, j < P.cellsOf e → w.cell? ⟨b, o + i * P.cellsOf e + j, none⟩ = cs[j]?) ∧ DataW.trod enc P w base spare held m e cs = some y) := by
  obtain ⟨a, n, c, rfl⟩ := okWide_slice ht hval
  obtain ⟨fuel, hf⟩ := h
  rcases DataW.trod_slice ht hf with ⟨hx, _⟩ | ⟨x, n', c', elems, rest, m, _, hx, _, hb, hl, hm, hlen, hel, _, _⟩
  · simp [Value.cells] at hx
    obtain ⟨rfl, rfl, rfl⟩ := hx
    exact ⟨none, 0, 0, rfl, Nat.le_refl _, Nat.zero_le _, .inl rfl⟩
  · simp [Value.cells] at hx
    obtain ⟨rfl, rfl, rfl⟩ := hx
    refine ⟨_, n, c, rfl, hl, hm, ?_⟩
    by_cases h0 : n = 0
    · exact .inl h0
    · have each : ∀ i, i < n → ∃ cs y, cs.length = P.cellsOf e ∧ (∀ j, j < P.cellsOf e → w.cell? ((x.add (i * P.cellsOf e)).add j) = cs[j]?) ∧ DataW.trod enc P w base spare held m e cs = some y := by
        intro i hi
        have h1 := hel i hi
        have h2 : elems[i]? = some (elems[i]'(by omega)) := List.getElem?_eq_getElem _
        rw [h2, Option.bind_eq_some_iff] at h1
        obtain ⟨cs, hcs, hy⟩ := h1
        obtain ⟨_, q1, q2⟩ := World.cells?_some hcs
        exact ⟨cs, _, q1, q2, hy⟩
      obtain ⟨b, o, spot⟩ := x
      obtain ⟨cs, y, q1, q2, _⟩ := each 0 (by omega)
      have c0 := q2 0 hc
      have c1 : cs[0]? = some (cs[0]'(by omega)) := List.getElem?_eq_getElem _
      rw [c1] at c0
      have hs : spot = none := by simpa [Addr.add] using World.cell?_spot c0
      subst hs
      refine .inr ⟨b, o, rfl, by simpa [Addr.add] using World.block_lt_of_cell? _ _ c0, fun i hi => ?_⟩
      obtain ⟨cs, y, q1, q2, q3⟩ := each i hi
      exact ⟨cs, y, m, q1, fun j hj => by have := q2 j hj; rwa [add_none, add_none] at this, q3⟩

/-- a slice of whole numbers -/
theorem open_irow {t e : TypeId} {k : IntKind} {r : Reach} {b0 : Nat} {v : Value} {d : DataW H} {ps : List MemPlace} (ht : P.underlying t = some (.slice e)) (he : P.underlying e = some (.int k)) (hc : P.cellsOf e = 1)
    (hval : Value.okWide P w r b0 t v) (h : DataW.Trod enc P w base spare held t v d ps) :
    ∃ a n c, v = .slice a n c ∧ n ≤ c ∧ c ≤ maxLen ∧ (n = 0 ∨ ∃ (b o : Nat) (f : Nat → Int), a = some ⟨b, o, none⟩ ∧ b < w.heap.size ∧ ∀ i, i < n → w.cell? ⟨b, o + i, none⟩ = some (.int k (f i)) ∧ (Lit.int k (f i)).wf = true) := by
  obtain ⟨a, n, c, rfl, h1, h2, h3⟩ := open_cells ht (by omega) hval h
  refine ⟨a, n, c, rfl, h1, h2, h3.imp_right ?_⟩
  rintro ⟨b, o, rfl, hb, hx⟩
  refine ⟨b, o, fun i => match w.cell? ⟨b, o + i, none⟩ with | some (.int _ z) => z | _ => 0, rfl, hb, fun i hi => ?_⟩
  obtain ⟨cs, y, m, q1, q2, q3⟩ := hx i hi
  obtain ⟨z, rfl, _, hw⟩ := DataW.trod_int he q3
  have := q2 0 (by omega)
  simp [hc] at this
  simp [this, hw]

/-- a slice of truths -/
theorem open_brow {t e : TypeId} {r : Reach} {b0 : Nat} {v : Value} {d : DataW H} {ps : List MemPlace} (ht : P.underlying t = some (.slice e)) (he : P.underlying e = some .bool) (hc : P.cellsOf e = 1)
    (hval : Value.okWide P w r b0 t v) (h : DataW.Trod enc P w base spare held t v d ps) :
    ∃ a n c, v = .slice a n c ∧ n ≤ c ∧ c ≤ maxLen ∧ (n = 0 ∨ ∃ (b o : Nat) (f : Nat → Bool), a = some ⟨b, o, none⟩ ∧ b < w.heap.size ∧ ∀ i, i < n → w.cell? ⟨b, o + i, none⟩ = some (.bool (f i))) := by
  obtain ⟨a, n, c, rfl, h1, h2, h3⟩ := open_cells ht (by omega) hval h
  refine ⟨a, n, c, rfl, h1, h2, h3.imp_right ?_⟩
  rintro ⟨b, o, rfl, hb, hx⟩
  refine ⟨b, o, fun i => match w.cell? ⟨b, o + i, none⟩ with | some (.bool z) => z | _ => false, rfl, hb, fun i hi => ?_⟩
  obtain ⟨cs, y, m, q1, q2, q3⟩ := hx i hi
  obtain ⟨z, rfl, _⟩ := DataW.trod_bool he q3
  have := q2 0 (by omega)
  simp [hc] at this
  simp [this]

/-- a struct of four whole numbers -/
theorem open_ints4 {r : Reach} {b0 : Nat} {t : TypeId} {f0 f1 f2 f3 : Field} {k0 k1 k2 k3 : IntKind} {v : Value} {d : DataW H} {ps : List MemPlace} (hs : P.underlying t = some (.struct #[f0, f1, f2, f3])) (hone : Go.Deep.oneCellFields P #[f0, f1, f2, f3] = true) (hC : P.cellsOf t = 4)
    (e0 : P.underlying f0.type = some (.int k0)) (e1 : P.underlying f1.type = some (.int k1)) (e2 : P.underlying f2.type = some (.int k2)) (e3 : P.underlying f3.type = some (.int k3))
    (hv : Value.okWide P w r b0 t v) (h : DataW.Trod enc P w base spare held t v d ps) :
    ∃ a b c d : Int, v = .agg #[.int k0 a, .int k1 b, .int k2 c, .int k3 d] := by
  obtain ⟨v0, v1, v2, v3, y0, y1, y2, y3, n, rfl, _, _, h0, h1, h2, h3⟩ := Go.Joins.open_agg4 hs hone hC hv h
  obtain ⟨z0, q0, _⟩ := DataW.trod_int e0 h0
  obtain ⟨z1, q1, _⟩ := DataW.trod_int e1 h1
  obtain ⟨z2, q2, _⟩ := DataW.trod_int e2 h2
  obtain ⟨z3, q3, _⟩ := DataW.trod_int e3 h3
  simp only [List.cons.injEq, and_true] at q0 q1 q2 q3
  exact ⟨z0, z1, z2, z3, by rw [q0, q1, q2, q3]⟩
end
end Go.Proofs.YtjogcdimpglpbaaGreat
set_option linter.unusedVariables false
set_option linter.unusedSimpArgs false
set_option linter.deprecated false
set_option maxRecDepth 100000
namespace Go.Proofs.YtjogcdimpglpbaaGreat
open Go.ChangeShapes Go.WideShapes Go.ChangeAt Go.RowKit Go.Cln
namespace ki
theorem all (n : Nat) (h1 : 1 ≤ n) (h2 : n ≤ 200) : Q n := q7 (q6 (q5 (q4 (q3 (q2 (q1 (q0 fun i a b => absurd a (by omega)))))))) n h1 (by omega)
noncomputable section
theorem e0 (c : Nat) (x : Int) : ((mk Tryz.prog K10 400).call 5 [.slice (some ⟨0, 0, none⟩) 0 c, .int .u16 x] (St.start 1 .leaf orcI)).map (fun r => (r.1, r.2.obl)) = some (.bool true, pI 0 (fun _ => 0) x) := by kernel_rfl
theorem eN (x : Int) : ((mk Tryz.prog K10 400).call 5 [.slice none 0 0, .int .u16 x] (St.start 0 .leaf orcI)).map (fun r => (r.1, r.2.obl)) = some (.bool true, pI 0 (fun _ => 0) x) := by kernel_rfl
theorem eMid (n c : Nat) (x : Int) : ((mk Tryz.prog K10 400).call 5 [.slice (some ⟨0, 0, none⟩) n c, .int .u16 x] (St.start 1 .leaf [none, none, some false, none, none, some true, some true])).map (fun r => (r.1, r.2.obl)) = some (.bool true, (((True ∧ decide ((300 : Int) < (n : Int)) = false) ∧ decide ((200 : Int) < (n : Int)) = true) ∧ decide ((200 : Int) < (n : Int)) = true)) := by kernel_rfl
theorem eMany (n c : Nat) (x : Int) : ((mk Tryz.prog K10 400).call 5 [.slice (some ⟨0, 0, none⟩) n c, .int .u16 x] (St.start 1 .leaf [none, none, some true])).map (fun r => (r.1, r.2.obl)) = some (.bool true, (True ∧ decide ((300 : Int) < (n : Int)) = true)) := by kernel_rfl
end
theorem wf16 {a : Int} (h : (Lit.int .u16 a).wf = true) : 0 ≤ a ∧ a < 65536 := by
  have h : IntKind.u16.min ≤ a ∧ a ≤ IntKind.u16.max := by simpa [Lit.wf] using h
  have e1 : IntKind.u16.min = 0 := by decide
  have e2 : IntKind.u16.max = 65535 := by decide
  rw [e1, e2] at h; omega
theorem ub_eq {x y : Int} (h : x % 256 = y % 256) : ub x = ub y := by
  unfold ub; rw [IntKind.wrap_u8, IntKind.wrap_u8, h]
theorem tAB {x : Int} (h : 0 ≤ x ∧ x < 65536) : tA x = tB x := by
  unfold tA tB
  have w : ∀ y : Int, 0 ≤ y → y < 65536 → IntKind.i64.wrap y = y := fun y a b => by rw [IntKind.wrap_i64]; omega
  rw [Int.fdiv_eq_ediv_of_nonneg _ (by decide), w x h.1 h.2, Int.tdiv_eq_ediv_of_nonneg h.1, Int.tmod_eq_emod_of_nonneg h.1, w (x / 256) (by omega) (by omega)]
  rw [ub_eq (x := x / 2 ^ 8) (y := x / 256) (by omega), ub_eq (x := x) (y := x % 256) (by omega)]
theorem pI_ok {n : Nat} {g : Nat → Int} {x : Int} (h : 0 ≤ x ∧ x < 65536) : pI n g x := by
  have e : eqI n g x = true := by unfold eqI; rw [tAB h]; exact BEq.rfl
  exact ⟨⟨⟨⟨trivial, e⟩, e⟩, e⟩, e⟩
theorem kdfInputs (W : World) (a : Option Addr) (n c : Nat) (s : (a = none ∧ n = 0 ∧ c = 0) ∨ ∃ b o, a = some ⟨b, o, none⟩ ∧ n ≤ c ∧ (c : Int) ≤ 9223372036854775807)
    (z : n = 0 ∨ ∃ (b o : Nat) (f : Nat → Int), a = some ⟨b, o, none⟩ ∧ HasCells W b o (rowV .u8 n f)) (x : Int) (wx : (Lit.int .u16 x).wf = true) :
    Calls Tryz.prog 5 #[.slice a n c, .int .u16 x] W fun e w' => e = .returned (.bool true) ∧ Below W.heap.size W w' := by
  have K : GivenOk Tryz.prog K10 := (CallsOk.one rfl ae.known).given
  have hx := wf16 wx
  rcases s with ⟨rfl, rfl, rfl⟩ | ⟨b, o, rfl, h1, h2⟩
  · exact ranF ae.pg K (eN x) (pI_ok hx) rfl rfl W
  · have hs := named_hs 1
    have hv : ∀ orc, VL (Dm (St.start 1 .leaf orc)) (fun _ => ⟨b, o, 0⟩) [.slice (some ⟨0, 0, none⟩) n c, .int .u16 x] [.slice (some ⟨b, o, none⟩) n c, .int .u16 x] := fun orc =>
      .cons (VR.unread (by decide) rfl rfl h1) (.cons (.same rfl) .nil)
    rcases Nat.lt_or_ge 300 n with k1 | k1
    · exact ranG ae.pg K (eMany n c x) ⟨trivial, by simp; omega⟩ rfl (hs _ _ W) (hv _)
    rcases Nat.lt_or_ge 200 n with k2 | k2
    · exact ranG ae.pg K (eMid n c x) ⟨⟨⟨trivial, by simp; omega⟩, by simp; omega⟩, by simp; omega⟩ rfl (hs _ _ W) (hv _)
    rcases z with rfl | ⟨b', o', f, e, hc⟩
    · exact ranG ae.pg K (e0 c x) (pI_ok hx) rfl (hs _ _ W) (hv _)
    · cases e
      by_cases k3 : n = 0
      · subst k3; exact ranG ae.pg K (e0 c x) (pI_ok hx) rfl (hs _ _ W) (hv _)
      · exact ranS ae.pg K (all n (by omega) k2 f c x) (pI_ok hx) (rowV_flat _ _ _) rfl rfl h1 W b o hc
end ki
end Go.Proofs.YtjogcdimpglpbaaGreat
namespace Go.Proofs.YtjogcdimpglpbaaGreat
namespace kdfInputs
open Go.ChangeShapes Go.WideShapes Go.ChangeAt Go.RowKit
open Go.ChangeMaps (open_string shut_string)
set_option linter.unusedVariables false

theorem own : ownKnob Tryz.prog.godebug = none := by kernel_rfl
theorem laidOut : laidOutB Tryz.prog = true := by kernel_rfl

open Go.Cln in
theorem walk (W : World) (a0 : Option Addr) (n0 c0 : Nat) (s0 : (a0 = none ∧ n0 = 0 ∧ c0 = 0) ∨ ∃ b o, a0 = some ⟨b, o, none⟩ ∧ n0 ≤ c0 ∧ (c0 : Int) ≤ 9223372036854775807)
    (z0 : n0 = 0 ∨ ∃ (b o : Nat) (f : Nat → Int), a0 = some ⟨b, o, none⟩ ∧ HasCells W b o (rowV .u8 n0 f)) (a1 : Int) (w1 : (Lit.int .u16 a1).wf = true) :
    Calls Tryz.prog 5 #[.slice a0 n0 c0, .int .u16 a1] W fun e w' => e = .returned (.bool true) ∧ Below W.heap.size W w' := ki.kdfInputs W a0 n0 c0 s0 z0 a1 w1

set_option maxRecDepth 100000 in
theorem lifted (os : Os) (started : os.Started) (H : Type) (enc : TypeId × Value → H) :
    ReturnsInHanded {} Tryz.checked os 5 .any (Rows.kdfInputsSpec.pre6 enc Tryz.prog Tryz.f5 Rows.kdfInputsRow.domain false) (Rows.kdfInputsSpec.post enc Tryz.prog Tryz.f5 false true false false) := by
  refine returnsInHanded_of_change (C := Tryz.checked) own started (by kernel_rfl) Tryz.func5
    (ChangeSpec.witness6 (enc := enc) (C := Tryz.checked) false ⟨#[], #[.slice none 0 0, .int .u16 0], []⟩ 8 (by kernel_rfl) (by kernel_rfl) (by kernel_rfl) (by kernel_rfl)) ?_
  intro W base args ds gs before hval0 hW hcnd _
  have hval : ∀ (j : Nat) t v, Tryz.f5.params[j]? = some t → args[j]? = some v → Value.okWide Tryz.prog W .any base t v := hval0
  have hW' := hW
  obtain ⟨p, q, hA0, hV, rfl, hfz, hnd⟩ := hW
  have hA : DataW.TrodAll enc Tryz.prog W 0 (fun _ => true) true Tryz.f5.params.toList args.toList ds p := hA0
  rw [Tryz.params5] at hA hval
  obtain ⟨v0, vs0, d0, ds0, p0, q0, hargs, rfl, rfl, h0, r0⟩ := trodAll_cons hA
  obtain ⟨v1, vs1, d1, ds1, p1, q1, rfl, rfl, rfl, h1, r1⟩ := trodAll_cons r0
  obtain ⟨rfl, rfl, rfl⟩ := trodAll_nil r1
  obtain rfl : args = #[v0, v1] := by cases args; simp_all
  obtain ⟨rfl, rfl⟩ := trodVars_none hV
  have k0 := h0
  have lt0 : ∀ x ∈ p0, x.block < W.heap.size := by obtain ⟨m, hm⟩ := k0; exact DataW.trod_lt m _ _ _ hm
  have k1 := h1
  have lt1 : ∀ x ∈ p1, x.block < W.heap.size := by obtain ⟨m, hm⟩ := k1; exact DataW.trod_lt m _ _ _ hm
  obtain ⟨a0, n0, c0, rfl, s0⟩ := Go.Cln.open_slice Tryz.underlying23 (hval 0 23 v0 rfl rfl)
  have z0 := open_irow Tryz.underlying23 Tryz.underlying5 (by kernel_rfl) (hval 0 23 _ rfl rfl) h0
  replace z0 := Go.Cln.crow z0
  obtain ⟨a1, rfl, rfl, rfl, w1⟩ := open_int Tryz.underlying36 (hval 1 36 v1 rfl rfl) h1
  clear hA0 hval0
  refine (walk W a0 n0 c0 s0 z0 a1 w1).mono fun e W' ⟨he, bel⟩ => ?_
  subst he
  exact ⟨_, rfl, _, _, _, [], _, [], hW', trodAll_mk1 (shut_bool Tryz.underlying4 _), (trodAll_cons_mk (Below.trod laidOut (by kernel_rfl) (of_decide_eq_true (by kernel_rfl)) k0 bel lt0) (trodAll_cons_mk (Below.trod laidOut (by kernel_rfl) (of_decide_eq_true (by kernel_rfl)) k1 bel lt1) trodAll_mk0)), rfl, bel.frame _, fun h => by cases h⟩

theorem over : Rows.kdfInputsRow.holds Tryz.pinned (OpenSpec.ofChange Rows.kdfInputsSpec) :=
  OpenClaim.holds_of_wide 5 Tryz.f5 rfl rfl rfl rfl rfl rfl rfl ⟨rfl, rfl, rfl, rfl, rfl⟩ rfl rfl rfl rfl rfl (by kernel_rfl) Tryz.func5 (by kernel_rfl)
    (of_decide_eq_true (by kernel_rfl)) (by unfold Func.isWrapper; first | (rw [if_pos (by decide +kernel)]; kernel_rfl) | (rw [if_neg (by decide +kernel)]; exact ⟨rfl, rfl⟩))
    (fun os started H enc _ => lifted os started H enc)

end kdfInputs
theorem kdfInputs_holds : Rows.KdfInputsSaid := kdfInputs.over
end Go.Proofs.YtjogcdimpglpbaaGreat
