/- Read off the code by the clean reading. -/
import Derived.Test.YthpoeegoankpoaaGreatClnMb
set_option linter.unusedVariables false
set_option linter.unusedSimpArgs false
set_option linter.deprecated false
set_option maxRecDepth 100000
namespace Go.Proofs.YthpoeegoankpoaaGreat
open Go.ChangeShapes Go.WideShapes Go.ChangeAt Go.RowKit Go.Cln
namespace ob
set_option linter.unusedVariables false
noncomputable section
theorem l1 (x : MX) (a b : PV) : (call_ (KL x) x 4 [a.v, b.v] [some true]).map (fun r => (r.1, r.2.obl)) = some (.bool true, (True ∧ decide (nI a.n > 60) = true)) := by kernel_rfl
theorem l2 (x : MX) (a b : PV) : (call_ (KL x) x 4 [a.v, b.v] [some false, none, none, none, none, some true]).map (fun r => (r.1, r.2.obl)) = some (.bool true, ((True ∧ decide (nI a.n > 60) = false) ∧ decide (nI b.n > 60) = true)) := by kernel_rfl
theorem l3 (x : MX) (a b : PV) : (call_ (KL x) x 4 [a.v, b.v] [some false, none, none, none, none, some false, some true, some true, some true, some true, some true, some true, some true]).map (fun r => (r.1, r.2.obl)) = some (.bool true, ((((((((((((True ∧ decide (nI a.n > 60) = false) ∧ decide (nI b.n > 60) = false) ∧ decide (a.n = 0) = true) ∧ (x.F = x.F ∧ ruOk x a.P a.n ∧ ruOk x b.P b.n)) ∧ (x.F = x.F ∧ ruOk x a.P a.n ∧ ruOk x b.P b.n)) ∧ (polE x a b == polE x a b) = true) ∧ (polE x a b == polE x a b) = true) ∧ (polE x a b == polE x a b) = true) ∧ (x.F = x.F ∧ a.n = 0)) ∧ (polE x a b == polE x a b) = true) ∧ (a.e == a.e) = true) ∧ (a.e == a.e) = true)) := by kernel_rfl
theorem l4 (x : MX) (a b : PV) : (call_ (KL x) x 4 [a.v, b.v] [some false, none, none, none, none, some false, some false, some true, some true, some true, some true, some true, some true]).map (fun r => (r.1, r.2.obl)) = some (.bool true, (((((((((((((True ∧ decide (nI a.n > 60) = false) ∧ decide (nI b.n > 60) = false) ∧ decide (a.n = 0) = false) ∧ (a.n ≤ x.RN a.P ∧ (∀ i, (x.row a.P i).length = 15) ∧ a.n * 40 ≤ mostBytes ∧ a.n ≤ mostBytes)) ∧ (x.F = x.F ∧ ruOk x a.P a.n ∧ ruOk x b.P b.n)) ∧ (x.F = x.F ∧ ruOk x a.P a.n ∧ ruOk x b.P b.n)) ∧ (polE x a b == polE x a b) = true) ∧ (polE x a b == polE x a b) = true) ∧ (polE x a b == polE x a b) = true) ∧ (x.F = x.F ∧ x.row a.P = x.row a.P ∧ 15 = 15 ∧ a.n = a.n ∧ a.n = a.n ∧ ruOk x a.P a.n)) ∧ (polE x a b == polE x a b) = true) ∧ (a.e == a.e) = true) ∧ (a.e == a.e) = true)) := by kernel_rfl
theorem rd4 {x : MX} {a b : PV} (ha : a.n ≤ x.RN a.P) (hb : b.n ≤ x.RN b.P) : Rd Tryz.prog x.F 4 [a.v, b.v] (.bool true) := by
  by_cases h1 : nI a.n > 60
  · exact Rd.run pg (KL_ok x) (l1 x a b) ⟨trivial, decide_eq_true h1⟩ rfl
  by_cases h2 : nI b.n > 60
  · exact Rd.run pg (KL_ok x) (l2 x a b) ⟨⟨trivial, decide_eq_false h1⟩, decide_eq_true h2⟩ rfl
  have ra : ruOk x a.P a.n := ⟨ha, by unfold nI at h1; omega⟩
  have rb : ruOk x b.P b.n := ⟨hb, by unfold nI at h2; omega⟩
  have s := beq_self_eq_true (polE x a b)
  have e := beq_self_eq_true a.e
  by_cases h0 : a.n = 0
  · exact Rd.run pg (KL_ok x) (l3 x a b) ⟨⟨⟨⟨⟨⟨⟨⟨⟨⟨⟨⟨trivial, decide_eq_false h1⟩, decide_eq_false h2⟩, decide_eq_true h0⟩, ⟨rfl, ra, rb⟩⟩, ⟨rfl, ra, rb⟩⟩, s⟩, s⟩, s⟩, ⟨rfl, h0⟩⟩, s⟩, e⟩, e⟩ rfl
  · exact Rd.run pg (KL_ok x) (l4 x a b) ⟨⟨⟨⟨⟨⟨⟨⟨⟨⟨⟨⟨⟨trivial, decide_eq_false h1⟩, decide_eq_false h2⟩, decide_eq_false h0⟩, ⟨ha, fun _ => rfl, by unfold mostBytes nI at *; omega, by unfold mostBytes nI at *; omega⟩⟩, ⟨rfl, ra, rb⟩⟩, ⟨rfl, ra, rb⟩⟩, s⟩, s⟩, s⟩, ⟨rfl, rfl, rfl, rfl, rfl, ra⟩⟩, s⟩, e⟩, e⟩ rfl
def shRule : List FC := [.int .u32, .int .u8, .int .u8, .int .u8, .bool, .int .u32, .int .u32, .bool, .bool, .bool, .bool, .int .u32, .int .u32, .int .u32, .int .u8]
def isC (q : FC) (v : Value) : Prop := match q with
  | .int k => ∃ z, v = .int k z
  | .bool => ∃ z, v = .bool z
  | _ => False
def absC (q : FC) (v : Value) : Value := match q with
  | .int k => .int k (iV v)
  | .bool => .bool (bV v)
  | _ => undef
theorem isC_vr {q : FC} {v : Value} (h : isC q v) : (∀ (N : Nat → Prop) (ρ : Nat → PB), N 0 → VR N ρ (absC q v) v) ∧ famV (absC q v) = true := by
  cases q with
  | int k => obtain ⟨z, rfl⟩ := h; exact ⟨fun _ _ _ => .same rfl, rfl⟩
  | bool => obtain ⟨z, rfl⟩ := h; exact ⟨fun _ _ _ => .same rfl, rfl⟩
  | str => exact h.elim
  | list l => exact h.elim
def okRow (W : World) (sh : List FC) (P i : Nat) : Prop := ∀ (j : Nat) (q : FC), sh[j]? = some q → ∃ u, W.cell? ⟨blkOf P, baseOf P + (i * sh.length + j), none⟩ = some u ∧ isC q u
noncomputable def xW (B : Nat) (W : World) : MX where
  RN P := lead (okRow W shRule P) B
  A P i := iV (cW W P (i * 15 + 0))
  B P i := iV (cW W P (i * 15 + 1))
  C P i := iV (cW W P (i * 15 + 2))
  D P i := iV (cW W P (i * 15 + 3))
  E P i := bV (cW W P (i * 15 + 4))
  G P i := iV (cW W P (i * 15 + 5))
  H P i := iV (cW W P (i * 15 + 6))
  I P i := bV (cW W P (i * 15 + 7))
  J P i := bV (cW W P (i * 15 + 8))
  K P i := bV (cW W P (i * 15 + 9))
  L P i := bV (cW W P (i * 15 + 10))
  M P i := iV (cW W P (i * 15 + 11))
  O P i := iV (cW W P (i * 15 + 12))
  Q P i := iV (cW W P (i * 15 + 13))
  T P i := iV (cW W P (i * 15 + 14))
theorem row_at (B : Nat) (W : World) (P i j : Nat) (v : Value) (h : ((xW B W).row P i)[j]? = some v) : ∃ q, shRule[j]? = some q ∧ v = absC q (cW W P (i * 15 + j)) := by
  rcases j with _ | _ | _ | _ | _ | _ | _ | _ | _ | _ | _ | _ | _ | _ | _ | j
  · cases h; exact ⟨_, rfl, rfl⟩
  · cases h; exact ⟨_, rfl, rfl⟩
  · cases h; exact ⟨_, rfl, rfl⟩
  · cases h; exact ⟨_, rfl, rfl⟩
  · cases h; exact ⟨_, rfl, rfl⟩
  · cases h; exact ⟨_, rfl, rfl⟩
  · cases h; exact ⟨_, rfl, rfl⟩
  · cases h; exact ⟨_, rfl, rfl⟩
  · cases h; exact ⟨_, rfl, rfl⟩
  · cases h; exact ⟨_, rfl, rfl⟩
  · cases h; exact ⟨_, rfl, rfl⟩
  · cases h; exact ⟨_, rfl, rfl⟩
  · cases h; exact ⟨_, rfl, rfl⟩
  · cases h; exact ⟨_, rfl, rfl⟩
  · cases h; exact ⟨_, rfl, rfl⟩
  · cases h
theorem famX (B : Nat) (W : World) : FamOk W (xW B W).F := by
  intro g P i v hv
  have hv : (Cells.rows (lead (okRow W shRule P) B) 15 ((xW B W).row P)).get i = some v := hv
  simp only [Cells.get] at hv
  split at hv
  · rename_i hi
    obtain ⟨q, hq, rfl⟩ := row_at B W P (i / 15) (i % 15) v hv
    obtain ⟨u, h1, h2⟩ := lead_ok hi (i % 15) q hq
    have hd := Nat.div_add_mod i 15
    have e1 : i / 15 * shRule.length + i % 15 = i := by show i / 15 * 15 + i % 15 = i; omega
    have e2 : i / 15 * 15 + i % 15 = i := by omega
    rw [e1] at h1
    rw [e2, cW_eq h1]
    obtain ⟨pc, t, fr, k1, k2⟩ := cell_in h1
    exact ⟨pc, t, fr, u, k1, k2, (isC_vr h2).1, (isC_vr h2).2⟩
  · cases hv
theorem fcC {W : World} {n : Nat} {q : FC} {v : Value} (hq : match q with | .int _ => True | .bool => True | _ => False) (h : FCv W n q v) : isC q v := by
  cases n with
  | zero => exact h.elim
  | succ n =>
    cases q with
    | int k => obtain ⟨z, e, _⟩ := h; exact ⟨z, e⟩
    | bool => exact h
    | str => exact hq.elim
    | list l => exact hq.elim
theorem shRule_plain : ∀ (j : Nat) (q : FC), shRule[j]? = some q → (match q with | .int _ => True | .bool => True | _ => False) := by
  intro j q h
  have hm := List.mem_of_getElem? h
  unfold shRule at hm
  simp only [List.mem_cons, List.not_mem_nil, or_false] at hm
  rcases hm with rfl | rfl | rfl | rfl | rfl | rfl | rfl | rfl | rfl | rfl | rfl | rfl | rfl | rfl | rfl <;> trivial
theorem lenRule {B : Nat} (hB : maxLen ≤ B) {W : World} {v : Value} (h : FCv W 8 (.list shRule) v) : rowM v ≤ (xW B W).RN (rowQ v) := by
  refine lead_ge (fun i hi j q hq => ?_) (Nat.le_trans h.le hB)
  obtain ⟨u, h1, h2⟩ := h.row hi hq
  exact ⟨u, by rw [← Nat.add_assoc]; exact h1, fcC (n := 7) (shRule_plain j q hq) h2⟩
def POL : List FC := [.list shRule, .bool]
structure CW where
  v : Value
  e : Bool
def CW.l (c : CW) : List Value := [c.v, .bool c.e]
def CW.m (c : CW) : PV := ⟨rowQ c.v, rowM c.v, rowC c.v, c.e⟩
def Typed (W : World) (c : CW) : Prop := FCv W 8 (.list shRule) c.v
theorem Typed.of {W : World} {c : CW} (h : ∀ (j : Nat) (q : FC), POL[j]? = some q → ∃ u : Value, c.l[j]? = some u ∧ FCv W 8 q u) : Typed W c := by
  obtain ⟨u, h1, h2⟩ := h 0 _ rfl; cases h1; exact h2
theorem Typed.vr {W : World} {c : CW} (h : Typed W c) {N : Nat → Prop} {ρ : Nat → PB} (h0 : N 0) : VR N ρ c.m.v (.agg c.l.toArray) := by
  refine .agg rfl fun i v w hv hw => ?_
  have hv : c.m.l[i]? = some v := hv
  have hw : c.l[i]? = some w := hw
  rcases i with _ | _ | i
  · cases hv; cases hw; exact .abs h0 rfl (FCv.abs (n := 8) h)
  · cases hv; cases hw; exact .same rfl
  · cases hv
theorem lawW {W : World} (hW : 0 < W.heap.size) {a b : CW} (ha : Typed W a) (hb : Typed W b) :
    Calls Tryz.prog 4 #[.agg a.l.toArray, .agg b.l.toArray] W fun e w' => e = .returned (.bool true) ∧ Go.RowKit.Below W.heap.size W w' :=
  rd4 (x := xW maxLen W) (a := a.m) (b := b.m) (lenRule (Nat.le_refl _) ha) (lenRule (Nat.le_refl _) hb) _ W [.agg a.l.toArray, .agg b.l.toArray] ((famX maxLen W).hs hW []) (Go.Cln.VL.cons (ha.vr fam_dm) (Go.Cln.VL.cons (hb.vr fam_dm) Go.Cln.VL.nil))
end
end ob
end Go.Proofs.YthpoeegoankpoaaGreat
namespace Go.Proofs.YthpoeegoankpoaaGreat
open Go.ChangeShapes Go.WideShapes Go.ChangeAt Go.RowKit Go.Cln
namespace ob
set_option linter.unusedVariables false
noncomputable section
def callZ (K : Given) (f : FuncId) (args : List Value) (o : List (Option Bool)) : Option (Value × St) := (mk Tryz.prog K 300).call f args (St.start 1 .leaf o)
def Rd0 (f : FuncId) (args : List Value) (v : Value) : Prop := ∀ (ρ : Nat → PB) (w : World) (args' : List Value), VL (Dm (St.start 1 .leaf [])) ρ args args' → Calls Tryz.prog f args'.toArray w fun e w' => e = .returned v ∧ Go.RowKit.Below w.heap.size w w'
theorem Rd0.run {K : Given} (hK : GivenOk Tryz.prog K) {f : FuncId} {args : List Value} {orc : List (Option Bool)} {v : Value} {p : Prop} (hr : (callZ K f args orc).map (fun r => (r.1, r.2.obl)) = some (v, p)) (hp : p) (hv : flat v = true) : Rd0 f args v :=
  fun ρ w args' ha => ranG pg hK hr hp hv (named_hs 1 orc ρ w) (by rw [show Dm (St.start 1 .leaf orc) = Dm (St.start 1 .leaf []) from rfl]; exact ha)
def K0 (T : FuncId → List Value → Option Value) (K : Given) : Given := K.readsP fun f args _ => (T f args).map fun v => (v, True)
theorem K0_ok {T : FuncId → List Value → Option Value} {K : Given} (hK : GivenOk Tryz.prog K) (h : ∀ f args v, T f args = some v → flat v = true ∧ args.all farV = true ∧ Rd0 f args v) : GivenOk Tryz.prog (K0 T K) :=
  hK.readsP fun f args s r hr => by
    simp only [Option.map_eq_some_iff] at hr
    obtain ⟨v, hv, rfl⟩ := hr
    obtain ⟨h1, h2, h3⟩ := h f args v hv
    exact ⟨h1, fun _ ρ w args' hs hl => h3 ρ w args' ⟨hl.1, fun i a b ha hb => farV_vr (hl.2 i a b ha hb) (List.all_eq_true.1 h2 a (List.mem_of_getElem? ha)) ⟨Nat.zero_lt_one, rfl⟩⟩⟩
def zv (e : Bool) : PV := ⟨0, 0, 0, e⟩
theorem z14t (e e' : Bool) : (callZ KN 14 [(zv e).v, (zv e').v] [some true]).map (fun r => (r.1, r.2.obl)) = some (.bool true, True ∧ (e == e') = true) := by kernel_rfl
theorem z14f (e e' : Bool) : (callZ KN 14 [(zv e).v, (zv e').v] [some false]).map (fun r => (r.1, r.2.obl)) = some (.bool false, True ∧ (e == e') = false) := by kernel_rfl
theorem z15t (e e' : Bool) : (callZ KN 15 [(zv e).v, (zv e').v] [some false]).map (fun r => (r.1, r.2.obl)) = some (.bool true, True ∧ (e != e') = false) := by kernel_rfl
theorem z15f (e e' : Bool) : (callZ KN 15 [(zv e).v, (zv e').v] [some true]).map (fun r => (r.1, r.2.obl)) = some (.bool false, True ∧ (e != e') = true) := by kernel_rfl
theorem rz14 (e e' : Bool) : Rd0 14 [(zv e).v, (zv e').v] (.bool (e == e')) := by
  cases h : (e == e') with
  | true => exact Rd0.run KN_ok (z14t e e') ⟨trivial, h⟩ rfl
  | false => exact Rd0.run KN_ok (z14f e e') ⟨trivial, h⟩ rfl
theorem rz15 (e e' : Bool) : Rd0 15 [(zv e).v, (zv e').v] (.bool (e == e')) := by
  cases h : (e == e') with
  | true => exact Rd0.run KN_ok (z15t e e') ⟨trivial, bne_f h⟩ rfl
  | false => exact Rd0.run KN_ok (z15f e e') ⟨trivial, bne_t h⟩ rfl
noncomputable def T9 (f : FuncId) (args : List Value) : Option Value :=
  if f == 14 || f == 15 then (match args with
    | [.agg a, .agg b] => (match a.toList with
      | [.slice (some ⟨0, 0, some 1000⟩) 0 0, .bool e] => (match b.toList with
        | [.slice (some ⟨0, 0, some 1000⟩) 0 0, .bool e'] => some (.bool (e == e'))
        | _ => none)
      | _ => none)
    | _ => none)
  else none
theorem T9_ok (f : FuncId) (args : List Value) (v : Value) (h : T9 f args = some v) : flat v = true ∧ args.all farV = true ∧ Rd0 f args v := by
  unfold T9 at h
  split at h
  · rename_i hf
    have hf : f = 14 ∨ f = 15 := by simpa using hf
    split at h
    · split at h
      · rename_i e ha
        split at h
        · rename_i e' hb
          cases h
          have ea := agg_eq ha
          have eb := agg_eq hb
          subst ea
          subst eb
          refine ⟨rfl, rfl, ?_⟩
          rcases hf with rfl | rfl
          · exact rz14 e e'
          · exact rz15 e e'
        · cases h
      · cases h
    · cases h
  · cases h
theorem w14t (e e' : Bool) (Q d : Nat) : (callZ KN 14 [(zv e).v, PV.v ⟨Q, 0, d, e'⟩] [some true]).map (fun r => (r.1, r.2.obl)) = some (.bool true, True ∧ (e == e') = true) := by kernel_rfl
theorem w14f (e e' : Bool) (Q d : Nat) : (callZ KN 14 [(zv e).v, PV.v ⟨Q, 0, d, e'⟩] [some false]).map (fun r => (r.1, r.2.obl)) = some (.bool false, True ∧ (e == e') = false) := by kernel_rfl
theorem rw14 (e e' : Bool) (Q d : Nat) : Rd0 14 [(zv e).v, PV.v ⟨Q, 0, d, e'⟩] (.bool (e == e')) := by
  cases h : (e == e') with
  | true => exact Rd0.run KN_ok (w14t e e' Q d) ⟨trivial, h⟩ rfl
  | false => exact Rd0.run KN_ok (w14f e e' Q d) ⟨trivial, h⟩ rfl
noncomputable def FZ (f : FuncId) (args : List Value) (s : St) : Option (Value × Prop) :=
  if f == 14 then (match args with
    | [.agg a, .agg b] => (match a.toList with
      | [.slice (some ⟨0, 0, some 1000⟩) 0 0, .bool e] => (match b.toList with
        | [.slice (some ⟨j, 0, none⟩) 0 0, .bool e'] => some (.bool (e == e'), True)
        | _ => none)
      | _ => none)
    | _ => none)
  else none
theorem FZ_ok (f : FuncId) (args : List Value) (s : St) (r : Value × Prop) (h : FZ f args s = some r) : flat r.1 = true ∧ (r.2 → ∀ (ρ : Nat → PB) (w : World) (args' : List Value), Hs s ρ w → VL (Dm s) ρ args args' → Calls Tryz.prog f args'.toArray w fun e w' => e = .returned r.1 ∧ Go.RowKit.Below w.heap.size w w') := by
  unfold FZ at h
  split at h
  · rename_i hf
    have hf : f = 14 := by simpa using hf
    subst hf
    split at h
    · split at h
      · rename_i e ha
        split at h
        · rename_i j e' hb
          cases h
          have ea := agg_eq ha
          have eb := agg_eq hb
          subst ea
          subst eb
          refine ⟨rfl, fun _ ρ w args' hs hl => ?_⟩
          obtain ⟨v1, r1, rfl, q1, hr⟩ := hl.inv_cons
          obtain ⟨v2, r2, rfl, q2, hr2⟩ := hr.inv_cons
          obtain rfl := hr2.inv_nil
          have d0 : Dm (St.start 1 .leaf []) 0 := ⟨Nat.zero_lt_one, rfl⟩
          obtain ⟨c', q3⟩ := pol_back (N' := Dm (St.start 1 .leaf [])) (ρ' := fun _ => ⟨0, 0, 0⟩) rfl d0 q2
          have q4 : VR (Dm (St.start 1 .leaf [])) (fun _ => ⟨0, 0, 0⟩) (zv e).v v1 := farV_vr q1 rfl d0
          exact rw14 e e' _ c' _ w [v1, v2] (Go.Cln.VL.cons q4 (Go.Cln.VL.cons q3 Go.Cln.VL.nil))
        · cases h
      · cases h
    · cases h
  · cases h
noncomputable def KY : Given := { Given.readsP (K0 T9 (Given.one 6 (.bool true))) FZ with fits := true }
theorem KY_ok : GivenOk Tryz.prog KY := frames_fits ((K0_ok (GivenOk.one (P := Tryz.prog) (f := 6) (v := .bool true) rfl works) T9_ok).readsP FZ_ok) true
end
end ob
end Go.Proofs.YthpoeegoankpoaaGreat
namespace Go.Proofs.YthpoeegoankpoaaGreat
open Go.ChangeShapes Go.WideShapes Go.ChangeAt Go.RowKit Go.Cln
namespace ob
set_option linter.unusedVariables false
noncomputable section
theorem m9 (e d : Bool) : (callZ KY 4 [(zv e).v, (zv d).v] [none, none, none, none, none, none, some true, some true, some true, some true, some true, some true]).map (fun r => (r.1, r.2.obl)) = some (.bool true, (((((((((True ∧ True) ∧ True) ∧ (((zv e).e == (zv d).e) == ((zv e).e == (zv d).e)) = true) ∧ (((zv e).e == (zv d).e) == ((zv e).e == (zv d).e)) = true) ∧ (((zv e).e == (zv d).e) == ((zv e).e == (zv d).e)) = true) ∧ True) ∧ (((zv e).e == (zv d).e) == ((zv e).e == (zv d).e)) = true) ∧ ((zv e).e == (zv e).e) = true) ∧ ((zv e).e == (zv e).e) = true)) := by kernel_rfl
theorem fcZero {W : World} (hW : W.heap.size = 0) {n : Nat} {l : List FC} {v : Value} (hl : l ≠ []) (h : FCv W (n + 1) (.list l) v) : rowQ v = 0 ∧ rowM v = 0 ∧ rowC v = 0 := by
  obtain ⟨a, m, c, rfl, hle, _, hm⟩ := h
  cases m with
  | zero => cases a <;> exact ⟨rfl, rfl, rfl⟩
  | succ m =>
    rcases hm with h0 | ⟨b, o, rfl, hx⟩
    · cases h0
    · cases l with
      | nil => exact absurd rfl hl
      | cons q l =>
        obtain ⟨u, h1, _⟩ := hx 0 (by omega) 0 q rfl
        obtain ⟨pc, t, fr, k1, _⟩ := cell_in h1
        rw [Array.getElem?_eq_none (by omega)] at k1
        cases k1
theorem Typed.zero {W : World} {c : CW} (hW : W.heap.size = 0) (h : Typed W c) : c.m = zv c.e := by
  obtain ⟨e1, e2, e3⟩ := fcZero (n := 7) hW (by intro e; cases e) h
  unfold CW.m zv
  rw [e1, e2, e3]
theorem policySame {W : World} {a b : CW} (ha : Typed W a) (hb : Typed W b) : Calls Tryz.prog 4 #[.agg a.l.toArray, .agg b.l.toArray] W fun e w' => e = .returned (.bool true) ∧ Go.RowKit.Below W.heap.size W w' := by
  rcases Nat.eq_zero_or_pos W.heap.size with h0 | h0
  · have s := beq_self_eq_true ((zv a.e).e == (zv b.e).e)
    have e := beq_self_eq_true (zv a.e).e
    have r : Rd0 4 [(zv a.e).v, (zv b.e).v] (.bool true) := Rd0.run KY_ok (m9 a.e b.e) ⟨⟨⟨⟨⟨⟨⟨⟨⟨trivial, trivial⟩, trivial⟩, s⟩, s⟩, s⟩, trivial⟩, s⟩, e⟩, e⟩ rfl
    have d0 : Dm (St.start 1 .leaf []) 0 := ⟨Nat.zero_lt_one, rfl⟩
    have ea := ha.vr (N := Dm (St.start 1 .leaf [])) (ρ := fun _ => ⟨0, 0, 0⟩) d0
    have eb := hb.vr (N := Dm (St.start 1 .leaf [])) (ρ := fun _ => ⟨0, 0, 0⟩) d0
    rw [ha.zero h0] at ea
    rw [hb.zero h0] at eb
    exact r _ W [.agg a.l.toArray, .agg b.l.toArray] (Go.Cln.VL.cons ea (Go.Cln.VL.cons eb Go.Cln.VL.nil))
  · exact lawW h0 ha hb
end
end ob
end Go.Proofs.YthpoeegoankpoaaGreat
