/- Read off the code by the clean reading. -/
import Derived.Test.YthgiflgofdmamabClnQ
import Derived.Test.YthgiflgofdmamabRows
import Derived.WalkKit
import Derived.ProofKit
import Derived.Below
import Derived.IntWalk
set_option linter.unusedVariables false
set_option linter.unusedSimpArgs false
set_option linter.deprecated false
set_option maxRecDepth 100000
namespace Go.Proofs.Ythgiflgofdmamab
open Go.ChangeShapes Go.WideShapes Go.ChangeAt Go.RowKit Go.Cln
namespace rn
set_option linter.unusedVariables false
set_option linter.unusedSimpArgs false
theorem pg : PG Try.prog := PG.of (by decide +kernel)
noncomputable section
theorem ActOk.cast {P : Program} {f : FuncId} {rest l l1 l2 : List Value} {v1 v2 : Value} (hv : v2 = v1) (hl : l2 = l1) (h : ActOk P f rest l v1 l1) : ActOk P f rest l v2 l2 := by subst hv; subst hl; exact h
def FN (f : FuncId) (rest l : List Value) : Option (Nat × Prop × Value) := if f == 27 then match rest, l with
  | [], .int .i64 fi :: .int .i64 _ :: .int .i64 _ :: .int .i64 _ :: .bool _ :: .int .i64 _ :: .int .i64 _ :: .int .i64 _ :: .int .i64 _ :: .bool _ :: .int .i64 _ :: _ => some (11, 1 ≤ fi ∧ True, .bool false)
  | _, _ => none else none
theorem none_p0 (fi : Int) (le : Int) (mo : Int) (tr : Int) (an : Bool) (sm : Int) (sp : Int) (wa : Int) (td : Int) (ru : Bool) (si : Int) (hp : (True ∧ decide (fi = 0) = false)) : SeeOk Try.prog 27 [] [.int .i64 fi, .int .i64 le, .int .i64 mo, .int .i64 tr, .bool an, .int .i64 sm, .int .i64 sp, .int .i64 wa, .int .i64 td, .bool ru, .int .i64 si] (.bool (false)) :=
  SeeOk.of_run pg (GivenOk.fit (GivenOk.nothing _)) (n := 200) (orc := [none, none, none, none, none, some false]) (by kernel_rfl) hp rfl rfl rfl
set_option maxHeartbeats 4000000 in
theorem none_q0 (fi : Int) (le : Int) (mo : Int) (tr : Int) (an : Bool) (sm : Int) (sp : Int) (wa : Int) (td : Int) (ru : Bool) (si : Int) (i0 : 1 ≤ fi)  : SeeOk Try.prog 27 [] [.int .i64 fi, .int .i64 le, .int .i64 mo, .int .i64 tr, .bool an, .int .i64 sm, .int .i64 sp, .int .i64 wa, .int .i64 td, .bool ru, .int .i64 si] (.bool false) := by
  have e1 : (.bool false : Value) = .bool (false) := by first | rfl | (simp only [if_true, if_false, reduceIte, Int.reduceEq, Bool.false_eq_true, decide_true, decide_false, Bool.and_true, Bool.true_and, Bool.and_false, Bool.false_and, Bool.or_true, Bool.or_false, Bool.true_or, Bool.false_or, Bool.not_true, Bool.not_false]; done) | (congr 1; rw [Bool.eq_iff_iff]; simp only [Bool.and_eq_true, Bool.or_eq_true, decide_eq_true_eq, Bool.false_eq_true, Bool.not_eq_true', decide_eq_false_iff_not, iff_false, iff_true]; omega) | (simp only [if_true, if_false, reduceIte, Int.reduceEq, Bool.false_eq_true, decide_true, decide_false, Bool.and_true, Bool.true_and, Bool.and_false, Bool.false_and, Bool.or_true, Bool.or_false, Bool.true_or, Bool.false_or, Bool.not_true, Bool.not_false]; try ((repeat' split) <;> first | rfl | (exfalso; omega) | (congr 1; omega) | (congr 2; omega) | (simp_all; done))) | ((try skip); (repeat' split) <;> first | rfl | (exfalso; omega) | (congr 1; omega) | (simp_all; done) | (simp_all; omega))
  rw [e1]
  refine none_p0 fi le mo tr an sm sp wa td ru si ⟨trivial, ?_⟩
  all_goals (first | trivial | assumption | (simp only [decide_eq_true_eq, decide_eq_false_iff_not, beq_eq_false_iff_ne, beq_iff_eq, Bool.not_eq_true', Bool.not_eq_false', bne_iff_ne, IntKind.wrap_i64]; omega) | (simp only [decide_eq_true_eq, decide_eq_false_iff_not]; assumption) | (simp_all; done))
set_option maxHeartbeats 4000000 in
theorem none_ok (fi : Int) (le : Int) (mo : Int) (tr : Int) (an : Bool) (sm : Int) (sp : Int) (wa : Int) (td : Int) (ru : Bool) (si : Int) (i0 : 1 ≤ fi) : SeeOk Try.prog 27 [] [.int .i64 fi, .int .i64 le, .int .i64 mo, .int .i64 tr, .bool an, .int .i64 sm, .int .i64 sp, .int .i64 wa, .int .i64 td, .bool ru, .int .i64 si] (.bool false) := by
  exact none_q0 fi le mo tr an sm sp wa td ru si i0 
theorem FN_ok : ∀ f rest l k p v, FN f rest l = some (k, p, v) → (l.take k).all flat0 = true ∧ rest.all flat = true ∧ flat v = true ∧ (p → SeeOk Try.prog f rest (l.take k) v) := by
  intro f rest l k p v h
  unfold FN at h
  split at h
  · rename_i hf
    have hf' : f = 27 := by simpa using hf
    subst hf'
    split at h
    · cases h
      exact ⟨rfl, rfl, rfl, fun hp => none_ok _ _ _ _ _ _ _ _ _ _ _ hp.1⟩
    · cases h
  · cases h
def K0 : Given := { Given.sees Given.nothing FN with fits := true }
theorem K0_ok : GivenOk Try.prog K0 := (GivenOk.sees (GivenOk.nothing _) FN_ok).fit
structure Clk where
  fi : Int
  le : Int
  mo : Int
  tr : Int
  an : Bool
  sm : Int
  sp : Int
  wa : Int
  td : Int
  ru : Bool
  si : Int
def Clk.cells (c : Clk) : List Value := [.int .i64 c.fi, .int .i64 c.le, .int .i64 c.mo, .int .i64 c.tr, .bool c.an, .int .i64 c.sm, .int .i64 c.sp, .int .i64 c.wa, .int .i64 c.td, .bool c.ru, .int .i64 c.si]
def Clk.doc (c : Clk) : List Value := [.int .i64 c.fi, .int .i64 c.le, .int .i64 c.mo, .int .i64 c.tr, .bool c.an, .int .i64 c.sm, .int .i64 c.sp, .int .i64 c.wa, .int .i64 c.si, .int .i64 c.td, .bool c.ru]
end

end rn
end Go.Proofs.Ythgiflgofdmamab
namespace Go.Proofs.Ythgiflgofdmamab
open Go.ChangeShapes Go.WideShapes Go.ChangeAt Go.RowKit Go.Cln
namespace rn
set_option linter.unusedVariables false
set_option linter.unusedSimpArgs false
noncomputable section
def lwI (le mo sm sp : Int) : Int := if sm.tdiv 8 + (if sp < 1 then 1 else sp) < le then le else if mo < sm.tdiv 8 + (if sp < 1 then 1 else sp) then mo else sm.tdiv 8 + (if sp < 1 then 1 else sp)
def smN (sm t : Int) : Int := sm + (t - sm.tdiv 8)
def spN (sm sp t : Int) : Int := sp + ((if t - sm.tdiv 8 < 0 then 0 - (t - sm.tdiv 8) else t - sm.tdiv 8) - sp.tdiv 4)
def sampleF (c : Clk) (t : Int) : Clk := if t < 0 then c else if 65536 < t then c else if c.an = true then ⟨c.fi, c.le, c.mo, c.tr, true, smN c.sm t, spN c.sm c.sp t, lwI c.le c.mo (smN c.sm t) (spN c.sm c.sp t), c.td, c.ru, c.si⟩
  else ⟨c.fi, c.le, c.mo, c.tr, true, 8 * t, 2 * t, lwI c.le c.mo (8 * t) (2 * t), c.td, c.ru, c.si⟩
def errS (t : Int) : Int := if t < 0 then 2 else if 65536 < t then 2 else 0
def errN (c : Clk) (t : Int) : Int := if t < 0 then 2 else if 2147483647 < t then 2 else if t < c.si then 2 else 0
def startF (c : Clk) (t : Int) : Clk := if t < 0 then c else if 2147483647 < t then c else if t < c.si then c else ⟨c.fi, c.le, c.mo, c.tr, c.an, c.sm, c.sp, c.wa, 0, true, t⟩
def stopF (c : Clk) : Clk := ⟨c.fi, c.le, c.mo, c.tr, c.an, c.sm, c.sp, if c.an = true then lwI c.le c.mo c.sm c.sp else c.fi, 0, false, 0⟩
def dueF (c : Clk) (t : Int) : Bool := if t < 0 then false else if 2147483647 < t then false else if t < c.si then false else if c.ru = true then decide (c.wa ≤ t - c.si) else false
def lateF (c : Clk) (t : Int) : Clk := if t < 0 then c else if 2147483647 < t then c else if t < c.si then c else if c.ru = true then if c.wa ≤ t - c.si then if c.td = c.tr then ⟨c.fi, c.le, c.mo, c.tr, c.an, c.sm, c.sp, c.wa, c.td, false, 0⟩
  else ⟨c.fi, c.le, c.mo, c.tr, c.an, c.sm, c.sp, if c.mo < 2 * c.wa then c.mo else 2 * c.wa, c.td + 1, c.ru, t⟩ else c else c
def lateB (c : Clk) (t : Int) : Bool := if t < 0 then false else if 2147483647 < t then false else if t < c.si then false else if c.ru = true then if c.wa ≤ t - c.si then if c.td = c.tr then false else true else false else false
def lateE (c : Clk) (t : Int) : Int := if t < 0 then 2 else if 2147483647 < t then 2 else if t < c.si then 2 else if c.ru = true then if c.wa ≤ t - c.si then 0 else 240 else 240
theorem Clk.ext' {c d : Clk} (h0 : c.fi = d.fi) (h1 : c.le = d.le) (h2 : c.mo = d.mo) (h3 : c.tr = d.tr) (h4 : c.an = d.an) (h5 : c.sm = d.sm) (h6 : c.sp = d.sp) (h7 : c.wa = d.wa) (h8 : c.td = d.td) (h9 : c.ru = d.ru) (h10 : c.si = d.si) : c = d := by
  cases c; cases d; simp only at h0 h1 h2 h3 h4 h5 h6 h7 h8 h9 h10; subst h0; subst h1; subst h2; subst h3; subst h4; subst h5; subst h6; subst h7; subst h8; subst h9; subst h10; rfl
end

end rn
end Go.Proofs.Ythgiflgofdmamab
