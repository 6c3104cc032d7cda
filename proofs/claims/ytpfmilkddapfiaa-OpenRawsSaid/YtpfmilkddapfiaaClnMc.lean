/- Read off the code by the clean reading. -/
import Derived.Test.YtpfmilkddapfiaaClnMb
import Derived.Test.YtpfmilkddapfiaaClnQd
set_option linter.unusedVariables false
set_option linter.unusedSimpArgs false
set_option linter.deprecated false
set_option maxRecDepth 100000
namespace Go.Proofs.Ytpfmilkddapfiaa
open Go.ChangeShapes Go.WideShapes Go.ChangeAt Go.RowKit Go.Cln
namespace ob
set_option linter.unusedVariables false
noncomputable section
def b41 : Code := ((Try.prog.funcs[41]?).bind (·.body)).getD .skip
def e41 : Code := dropC 2 b41
end
end ob
end Go.Proofs.Ytpfmilkddapfiaa
namespace Go.Proofs.Ytpfmilkddapfiaa
open Go.ChangeShapes Go.WideShapes Go.ChangeAt Go.RowKit Go.Cln
namespace ob
set_option linter.unusedVariables false
noncomputable section
def fstC : Code → Code
  | .seq a _ => a
  | c => c
def sndC : Code → Code
  | .seq _ b => b
  | c => c
def opsC : Code → Array Oper
  | .region _ o _ => o
  | _ => #[]
theorem deadT_all : ∀ (i : Nat) (l : List Value), deadT (fun _ => true) i l
  | _, [] => trivial
  | i, v :: l => ⟨fun h => (by cases h), deadT_all (i + 1) l⟩
def allT (_ : Nat) : Bool := true
theorem deadT_at (l : List Value) : deadT allT 0 l := deadT_all 0 l
noncomputable def u0 (Q c : Nat) : List Value := [PB_ Q 0 c, undef, .slice none 0 0, undef, undef, undef, undef, undef]
noncomputable def u1 (Q c : Nat) : List Value := [PB_ Q 0 c, undef, .slice none 0 0, PB_ Q 0 c, undef, undef, undef, undef]
noncomputable def u2 (Q c : Nat) (b : Bool) : List Value := [PB_ Q 0 c, undef, .slice none 0 0, PB_ Q 0 c, .bool b, undef, undef, undef]
noncomputable def u3 (Q c : Nat) : List Value := [PB_ Q 0 c, undef, .slice (some ⟨1, 0, none⟩) 0 0, PB_ Q 0 c, .bool false, .slice (some ⟨1, 0, none⟩) 0 0, PB_ Q 0 c, .slice (some ⟨1, 0, none⟩) 0 0]
end
end ob
end Go.Proofs.Ytpfmilkddapfiaa
namespace Go.Proofs.Ytpfmilkddapfiaa
open Go.ChangeShapes Go.WideShapes Go.ChangeAt Go.RowKit Go.Cln
namespace ob
set_option linter.unusedVariables false
noncomputable section
def isCallq (o : Oper) : Option (Operand × Array Operand × Option Tmp) := match o.op with
  | .call c => (match c.callee with
    | .value f => (match o.guard with
      | none => some (f, c.args, o.dst)
      | _ => none)
    | _ => none)
  | _ => none
theorem StepO.call' {P : Program} {rd : Option Nat} {s0 : St} {ρ0 : Nat → PB} {w0 : World} {s : St} {Q : Exit → St → Prop} {ops : Array Oper} (G : PG P) {i : Nat} {l : List Nat} {dst : Option Tmp} {f : Operand} {args : Array Operand} {g : FuncId} {fn : Option Code × List ResultVar × Nat} {b : Code} {vs : List Value} {F : Nat → Nat → Cells} {R : (Nat → Nat → Cells) → Value → Prop}
    (ho : (ops[i]?).bind isCallq = some (f, args, dst)) (hobl : s.obl) (hf : ev s f = some (.func (.func g) #[] #[])) (hvs : evs s args.toList = some vs) (hfn : (P.funcs[g]?).map (fun f => (f.body, f.results.toList, f.ntmps)) = some fn) (hb : fn.1 = some b) (h0 : s.heap.get 0 = some (.fam F)) (hfar : vs.all farV = true) (hm : MkOk P F g vs R)
    (h : ∀ F' v, Fresh w0 F F' → R F' v → ∃ s2, ToldS s s2 F' dst v ∧ StepO P rd s0 ρ0 w0 ops l s2 Q) : StepO P rd s0 ρ0 w0 ops (i :: l) s Q := by
  rw [Option.bind_eq_some_iff] at ho
  obtain ⟨o, hq, ho⟩ := ho
  rw [Option.map_eq_some_iff] at hfn
  obtain ⟨fn', hfn, e⟩ := hfn
  subst e
  unfold isCallq at ho
  split at ho
  · rename_i c hc
    split at ho
    · rename_i f' hf'
      split at ho
      · rename_i hg
        simp only [Option.some.injEq, Prod.mk.injEq] at ho
        obtain ⟨rfl, rfl, h3⟩ := ho
        obtain ⟨callee, args, ats⟩ := c
        simp only at hf' hvs
        subst hf'
        exact StepO.call (P := P) (ats := ats) G hq hc hg h3 hobl hf hvs hfn (by rw [show fn'.body = some b from hb]; rfl) h0 hfar hm h
      · cases ho
    · cases ho
  · cases ho
noncomputable def g23 (x : MX) (a : OV) : Nat → Option Ob := fun j => match j with
  | 0 => some (.fam x.F)
  | 1 => some (.cells (.lit a.l) 26)
  | _ => none
theorem g23_ok (x : MX) (a : OV) : Go.Cln.RowsIn (g23 x a) := by
  intro b n' w' g' t h
  unfold g23 at h
  split at h <;> cases h
noncomputable def y0 (a : OV) (w : Int) (i : Nat) : List Value := [a.v, .int .u8 w, .pointer (some ⟨1, 0, none⟩), junk, junk, junk, .int .i64 (nI i), junk, junk, junk, junk, junk, junk, undef, undef, undef, undef, undef, undef, undef]
noncomputable def y1 (x : MX) (a : OV) (w : Int) (i : Nat) : List Value := [a.v, .int .u8 w, .pointer (some ⟨1, 0, none⟩), junk, junk, junk, .int .i64 (nI i), junk, junk, junk, junk, junk, junk, junk, junk, junk, junk, junk, PB_ (x.CQ a.P (ix3 i)) (x.CM a.P (ix3 i)) (x.CC a.P (ix3 i)), undef]
noncomputable def y2 (a : OV) (w : Int) (i : Nat) : List Value := [a.v, junk, junk, junk, PB_ 0 0 0, .bool true, junk, junk, junk, junk, junk, junk, junk, junk, junk, junk, junk, junk, junk, junk]
end
end ob
end Go.Proofs.Ytpfmilkddapfiaa
namespace Go.Proofs.Ytpfmilkddapfiaa
open Go.ChangeShapes Go.WideShapes Go.ChangeAt Go.RowKit Go.Cln
namespace ob
set_option linter.unusedVariables false
noncomputable section
theorem kp_caps {x y : MX} (h : Keeps x.F y.F) {P n : Nat} (h0 : 0 < n) (hn : n ≤ x.CN P) : y.CN P = x.CN P ∧ y.cap P = x.cap P := by
  have e : (x.F 1003 P).get 0 = some (.int .u8 (x.CK P 0)) := by
    show (Cells.rows (x.CN P) 2 (x.cap P)).get 0 = _
    have := rows_get (n := x.CN P) (w := 2) (g := x.cap P) (i := 0) (j := 0) (by omega) (by omega)
    exact this
  have h1 := h 1003 P 0 _ e
  have h2 : Cells.rows (y.CN P) 2 (y.cap P) = Cells.rows (x.CN P) 2 (x.cap P) := h1
  injection h2 with h3 h4 h5
  exact ⟨h3, h5⟩
theorem kp_byt {x y : MX} (h : Keeps x.F y.F) {B : Nat} (h0 : 0 < (x.D B).length) : y.D B = x.D B := by
  have e : Cells.ints .u8 (y.D B) = Cells.ints .u8 (x.D B) := h.ints (g := 1000) (B := B) (k := .u8) (L := x.D B) rfl h0
  exact (Cells.ints.inj e).2
theorem kp_cap {x y : MX} (h : Keeps x.F y.F) {P n j : Nat} (hj : j < n) (hn : n ≤ x.CN P) : n ≤ y.CN P ∧ y.CK P j = x.CK P j ∧ y.CQ P j = x.CQ P j ∧ y.CM P j = x.CM P j := by
  obtain ⟨h1, h2⟩ := kp_caps h (n := n) (by omega) hn
  have h3 := congrFun h2 j
  unfold MX.cap at h3
  simp only [List.cons.injEq, Value.int.injEq, Value.slice.injEq, Option.some.injEq, Addr.mk.injEq, and_true, true_and] at h3
  exact ⟨by omega, h3.1, h3.2.1, h3.2.2.1⟩
theorem kp_row {x y : MX} (h : Keeps x.F y.F) {Q m : Nat} (hm : m ≤ (x.D Q).length) : m ≤ (y.D Q).length ∧ (y.D Q).take m = (x.D Q).take m ∨ m = 0 := by
  rcases Nat.eq_zero_or_pos m with h0 | h0
  · exact .inr h0
  · rw [kp_byt h (by omega)]; exact .inl ⟨hm, rfl⟩
theorem kp_capOk {x y : MX} (h : Keeps x.F y.F) {P n : Nat} (hO : capOk x P n) : capOk y P n := by
  obtain ⟨p1, p2, p3⟩ := hO
  rcases Nat.eq_zero_or_pos n with h0 | h0
  · subst h0; exact ⟨Nat.zero_le _, Nat.zero_le _, fun i hi => absurd hi (Nat.not_lt_zero i)⟩
  · refine ⟨(kp_cap h (j := 0) h0 p1).1, p2, fun i hi => ?_⟩
    obtain ⟨_, _, c2, c3⟩ := kp_cap h hi p1
    obtain ⟨b1, b2⟩ := p3 i hi
    rw [c2, c3]
    refine ⟨?_, b2⟩
    rcases kp_row h b1 with ⟨g, _⟩ | g
    · exact g
    · rw [g]; exact Nat.zero_le _
theorem SameCaps.capOk {x y : MX} {P P' n : Nat} (h : SameCaps x P y P' n) (hO : capOk x P n) : capOk y P' n := ⟨h.cn, hO.2.1, fun i hi => ⟨h.len i hi, by rw [h.m i hi]; exact (hO.2.2 i hi).2⟩⟩
structure Alike (y : MX) (P Q n : Nat) : Prop where
  k : ∀ j, j < n → y.CK P j = y.CK Q j
  m : ∀ j, j < n → y.CM P j = y.CM Q j
  eq : ∀ j, j < n → (y.D (y.CQ P j)).take (y.CM P j) = (y.D (y.CQ Q j)).take (y.CM Q j)
theorem Alike.symm {y : MX} {P Q n : Nat} (h : Alike y P Q n) : Alike y Q P n := ⟨fun j hj => (h.k j hj).symm, fun j hj => (h.m j hj).symm, fun j hj => (h.eq j hj).symm⟩
theorem SameCaps.alike {x y : MX} {P P' n : Nat} (h : SameCaps x P y P' n) (hk : Keeps x.F y.F) (hO : Go.Proofs.Ytpfmilkddapfiaa.ob.capOk x P n) : Alike y P' P n := by
  obtain ⟨p1, p2, p3⟩ := hO
  refine ⟨fun j hj => ?_, fun j hj => ?_, fun j hj => ?_⟩
  · rw [h.k j hj, (kp_cap hk hj p1).2.1]
  · rw [h.m j hj, (kp_cap hk hj p1).2.2.2]
  · obtain ⟨_, _, c2, c3⟩ := kp_cap hk hj p1
    rw [h.m j hj, c2, c3]
    have := h.eq j hj
    rw [h.m j hj] at this
    rw [this]
    rcases kp_row hk (p3 j hj).1 with ⟨_, g⟩ | g
    · exact g.symm
    · rw [g]; rfl
theorem beqB_self : ∀ l : List UInt8, beqB l l = true
  | [] => rfl
  | a :: l => by simp [beqB, beqB_self l]
theorem strE_of {y : MX} {P n Q m : Nat} (h : (y.D P).take n = (y.D Q).take m) : strE y P n Q m = true := by
  unfold strE
  rw [List.drop_zero, List.drop_zero, h]
  exact beqB_self _
theorem Alike.caps {y : MX} {P Q n : Nat} (h : Alike y P Q n) : capsE y P n Q n = true := by
  unfold capsE
  rw [beq_self, Bool.true_and]
  refine allB_all fun i hi => ?_
  unfold capE
  rw [ix2_eq, h.k i hi, strE_of (h.eq i hi)]
  simp
theorem openE_of {y : MX} {a d : OV} (h1 : d.asn = a.asn) (h2 : d.hold = a.hold) (h3 : d.id = a.id) (h4 : d.n = a.n) (h : Alike y d.P a.P a.n) : openE y d a = true ∧ openE y a d = true := by
  unfold openE
  rw [h1, h2, h3, h4, h.caps, h.symm.caps]
  simp
theorem few_ok {x : MX} {a : OV} (hf : fewE x a = true) (hn : a.n ≤ x.CN a.P) (hl : ∀ i, i < a.n → x.CM a.P i ≤ (x.D (x.CQ a.P i)).length) : capOk x a.P a.n := by
  unfold fewE at hf
  rw [Bool.and_eq_true] at hf
  have h30 : a.n ≤ 30 := by have := of_decide_eq_true hf.2; unfold nI at this; omega
  refine ⟨hn, by omega, fun i hi => ⟨hl i hi, ?_⟩⟩
  have := allB_at hf.1 i hi
  unfold fewCapE at this
  simp only [Bool.not_eq_true', decide_eq_false_iff_not, decide_eq_true_eq, ix3_eq] at this
  unfold nI at this; omega
theorem rd10 {x : MX} : Rd Try.prog x.F 10 [] (.bool true) := fun ρ w args' hs ha => by
  cases ha.inv_nil
  exact works w
noncomputable def rw10 (x : MX) (args : List Value) : Option (Value × Prop) := match args with
  | [] => some (.bool true, True)
  | _ => none
theorem rw10_ok (x : MX) {args : List Value} {r : Value × Prop} (h : rw10 x args = some r) : flat r.1 = true ∧ args.all farV = true ∧ (r.2 → Rd Try.prog x.F 10 args r.1) := by
  unfold rw10 at h
  split at h
  · cases h
    exact ⟨rfl, rfl, fun _ => rd10⟩
  · cases h
noncomputable def rw9 (x : MX) (args : List Value) : Option (Value × Prop) := match args with
  | [.agg z0] => (ovOf z0).bind fun u => some (.bool (fewE x u), u.n ≤ x.CN u.P ∧ u.n ≤ 9223372036854775807)
  | _ => none
theorem rw9_ok (x : MX) {args : List Value} {r : Value × Prop} (h : rw9 x args = some r) : flat r.1 = true ∧ args.all farV = true ∧ (r.2 → Rd Try.prog x.F 9 args r.1) := by
  unfold rw9 at h
  split at h
  · rename_i z0
    rw [Option.bind_eq_some_iff] at h
    obtain ⟨u, hu, h⟩ := h
    cases h
    rw [ovOf_v hu]
    exact ⟨rfl, rfl, fun hp => rd9 hp⟩
  · cases h
noncomputable def TA (x : MX) (f : FuncId) (args : List Value) : Option (Value × Prop) := if f == 9 then rw9 x args else if f == 10 then rw10 x args else none
theorem TA_ok (x : MX) (f : FuncId) (args : List Value) (r : Value × Prop) (h : TA x f args = some r) : flat r.1 = true ∧ args.all farV = true ∧ (r.2 → Rd Try.prog x.F f args r.1) := by
  unfold TA at h
  by_cases e9 : (f == 9) = true
  · have hf : f = 9 := by simpa using e9
    subst hf
    exact rw9_ok x h
  rw [if_neg e9] at h
  by_cases e10 : (f == 10) = true
  · have hf : f = 10 := by simpa using e10
    subst hf
    exact rw10_ok x h
  rw [if_neg e10] at h
  cases h
noncomputable def KA (x : MX) : Given := { Given.rds Given.nothing x.F (TA x) with fits := true }
theorem KA_ok (x : MX) : GivenOk Try.prog (KA x) := frames_fits ((GivenOk.nothing _).rds (TA_ok x)) true
noncomputable def rw16 (x : MX) (args : List Value) : Option (Value × Prop) := match args with
  | [.agg z0, .agg z1] => (ovOf z0).bind fun u => (ovOf z1).bind fun w => some (.bool (openE x u w), capOk x u.P u.n ∧ capOk x w.P w.n)
  | _ => none
theorem rw16_ok (x : MX) {args : List Value} {r : Value × Prop} (h : rw16 x args = some r) : flat r.1 = true ∧ args.all farV = true ∧ (r.2 → Rd Try.prog x.F 16 args r.1) := by
  unfold rw16 at h
  split at h
  · rename_i z0 z1
    rw [Option.bind_eq_some_iff] at h
    obtain ⟨u, hu, h⟩ := h
    rw [Option.bind_eq_some_iff] at h
    obtain ⟨w, hw, h⟩ := h
    cases h
    rw [ovOf_v hu]
    rw [ovOf_v hw]
    exact ⟨rfl, rfl, fun hp => rd16 hp.1 hp.2⟩
  · cases h
noncomputable def rw24 (x : MX) (args : List Value) : Option (Value × Prop) := match args with
  | [.agg z0, .agg z1] => (ovOf z0).bind fun u => (ovOf z1).bind fun w => some (.bool (openE x u w), capOk x u.P u.n ∧ capOk x w.P w.n)
  | _ => none
theorem rw24_ok (x : MX) {args : List Value} {r : Value × Prop} (h : rw24 x args = some r) : flat r.1 = true ∧ args.all farV = true ∧ (r.2 → Rd Try.prog x.F 24 args r.1) := by
  unfold rw24 at h
  split at h
  · rename_i z0 z1
    rw [Option.bind_eq_some_iff] at h
    obtain ⟨u, hu, h⟩ := h
    rw [Option.bind_eq_some_iff] at h
    obtain ⟨w, hw, h⟩ := h
    cases h
    rw [ovOf_v hu]
    rw [ovOf_v hw]
    exact ⟨rfl, rfl, fun hp => rd24 hp.1 hp.2⟩
  · cases h
noncomputable def TE (x : MX) (f : FuncId) (args : List Value) : Option (Value × Prop) := if f == 16 then rw16 x args else if f == 24 then rw24 x args else if f == 10 then rw10 x args else none
theorem TE_ok (x : MX) (f : FuncId) (args : List Value) (r : Value × Prop) (h : TE x f args = some r) : flat r.1 = true ∧ args.all farV = true ∧ (r.2 → Rd Try.prog x.F f args r.1) := by
  unfold TE at h
  by_cases e16 : (f == 16) = true
  · have hf : f = 16 := by simpa using e16
    subst hf
    exact rw16_ok x h
  rw [if_neg e16] at h
  by_cases e24 : (f == 24) = true
  · have hf : f = 24 := by simpa using e24
    subst hf
    exact rw24_ok x h
  rw [if_neg e24] at h
  by_cases e10 : (f == 10) = true
  · have hf : f = 10 := by simpa using e10
    subst hf
    exact rw10_ok x h
  rw [if_neg e10] at h
  cases h
end
end ob
end Go.Proofs.Ytpfmilkddapfiaa
