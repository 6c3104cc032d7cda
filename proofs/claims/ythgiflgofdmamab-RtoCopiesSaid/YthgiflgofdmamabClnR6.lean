/- Read off the code by the clean reading. -/
import Derived.Test.YthgiflgofdmamabClnR1
import Derived.Test.YthgiflgofdmamabClnR2
import Derived.Test.YthgiflgofdmamabClnR3
import Derived.Test.YthgiflgofdmamabClnR4
import Derived.Test.YthgiflgofdmamabClnR5
import Derived.Test.YthgiflgofdmamabRows
import Derived.WalkKit
import Derived.ProofKit
import Derived.Below
import Derived.IntWalk
set_option linter.unusedVariables false
set_option linter.unusedSimpArgs false
set_option linter.deprecated false
set_option maxRecDepth 100000
namespace Go.Proofs.Ythgiflgofdmamab
open Go.ChangeShapes Go.WideShapes Go.ChangeAt Go.RowKit Go.Cln
namespace rn
set_option linter.unusedVariables false
set_option linter.unusedSimpArgs false
structure Fns where
  sam : Clk → Int → Clk
  eS : Int → Int
  eN : Clk → Int → Int
  sta : Clk → Int → Clk
  sto : Clk → Clk
  lat : Clk → Int → Clk
  lB : Clk → Int → Bool
  lE : Clk → Int → Int
  due : Clk → Int → Bool
def Gd (c : Clk) : Prop := 1 ≤ c.le ∧ c.le ≤ c.fi ∧ c.fi ≤ c.mo ∧ c.mo ≤ 65536 ∧ 1 ≤ c.tr ∧ c.tr ≤ 100 ∧ 0 ≤ c.sm ∧ c.sm ≤ 524288 ∧ 0 ≤ c.sp ∧ c.sp ≤ 262147 ∧ c.le ≤ c.wa ∧ c.wa ≤ c.mo ∧ 0 ≤ c.td ∧ c.td ≤ c.tr ∧ 0 ≤ c.si ∧ c.si ≤ 2147483647 ∧ (c.ru = true ∨ c.si = 0)
def wfT (t : Int) : Prop := -9223372036854775808 ≤ t ∧ t ≤ 9223372036854775807
def FSq (Z : Fns) (f : FuncId) (rest l : List Value) : Option (Nat × Prop × Value) := match l with
  | .int .i64 fi :: .int .i64 le :: .int .i64 mo :: .int .i64 tr :: .bool an :: .int .i64 sm :: .int .i64 sp :: .int .i64 wa :: .int .i64 td :: .bool ru :: .int .i64 si :: _ => if f == 27 then (match rest with
      | [] => some (11, 1 ≤ fi ∧ True, .bool false)
      | _ => none) else if f == 25 then (match rest with
      | [.int .i64 t] => some (11, Gd ⟨fi, le, mo, tr, an, sm, sp, wa, td, ru, si⟩ ∧ wfT t, .bool (Z.due ⟨fi, le, mo, tr, an, sm, sp, wa, td, ru, si⟩ t))
      | _ => none) else none
  | _ => none
def FA (Z : Fns) (f : FuncId) (rest l : List Value) : Option (Prop × Value × List Value) := match l with
  | [.int .i64 fi, .int .i64 le, .int .i64 mo, .int .i64 tr, .bool an, .int .i64 sm, .int .i64 sp, .int .i64 wa, .int .i64 td, .bool ru, .int .i64 si] => if f == 23 then (match rest with
      | [] => some (Gd ⟨fi, le, mo, tr, an, sm, sp, wa, td, ru, si⟩ ∧ True, .int .i64 0, (Z.sto ⟨fi, le, mo, tr, an, sm, sp, wa, td, ru, si⟩).cells)
      | _ => none) else if f == 19 || f == 15 || f == 16 then (match rest with
      | [.int .i64 t] => if f == 19 then some (Gd ⟨fi, le, mo, tr, an, sm, sp, wa, td, ru, si⟩ ∧ wfT t, .int .i64 (Z.eS t), (Z.sam ⟨fi, le, mo, tr, an, sm, sp, wa, td, ru, si⟩ t).cells)
        else if f == 15 then some (Gd ⟨fi, le, mo, tr, an, sm, sp, wa, td, ru, si⟩ ∧ wfT t, .int .i64 (Z.eN ⟨fi, le, mo, tr, an, sm, sp, wa, td, ru, si⟩ t), (Z.sta ⟨fi, le, mo, tr, an, sm, sp, wa, td, ru, si⟩ t).cells)
        else some (Gd ⟨fi, le, mo, tr, an, sm, sp, wa, td, ru, si⟩ ∧ wfT t, .tuple #[.bool (Z.lB ⟨fi, le, mo, tr, an, sm, sp, wa, td, ru, si⟩ t), .int .i64 (Z.lE ⟨fi, le, mo, tr, an, sm, sp, wa, td, ru, si⟩ t)], (Z.lat ⟨fi, le, mo, tr, an, sm, sp, wa, td, ru, si⟩ t).cells)
      | _ => none) else none
  | _ => none
def docOf (l : List Value) : Option Clk := match l with
  | [.int .i64 fi, .int .i64 le, .int .i64 mo, .int .i64 tr, .bool an, .int .i64 sm, .int .i64 sp, .int .i64 wa, .int .i64 si, .int .i64 td, .bool ru] => some ⟨fi, le, mo, tr, an, sm, sp, wa, td, ru, si⟩
  | _ => none
def FT (Z : Fns) (f : FuncId) (args : List Value) : Option (Prop × Value) := if f == 22 then (match args with
    | [.agg x] => (match docOf x.toList with
      | some c => some (Gd c ∧ True, .agg (Z.sto c).doc.toArray)
      | none => none)
    | _ => none)
  else if f == 20 || f == 21 || f == 24 || f == 26 then (match args with
    | [.agg x, .int .i64 t] => (match docOf x.toList with
      | some c => if f == 20 then some (Gd c ∧ wfT t, .tuple #[.agg (Z.sam c t).doc.toArray, .int .i64 (Z.eS t)])
        else if f == 21 then some (Gd c ∧ wfT t, .tuple #[.agg (Z.sta c t).doc.toArray, .int .i64 (Z.eN c t)])
        else if f == 24 then some (Gd c ∧ wfT t, .tuple #[.agg (Z.lat c t).doc.toArray, .bool (Z.lB c t), .int .i64 (Z.lE c t)])
        else some (Gd c ∧ wfT t, .bool (Z.due c t))
      | none => none)
    | _ => none) else none
noncomputable section
def Zr : Fns := ⟨sampleF, errS, errN, startF, stopF, lateF, lateB, lateE, dueF⟩
theorem div8 (x : Int) (h : 0 ≤ x) : 8 * x.tdiv 8 ≤ x ∧ x < 8 * x.tdiv 8 + 8 := by rw [Int.tdiv_eq_ediv_of_nonneg h]; omega
theorem div4 (x : Int) (h : 0 ≤ x) : 4 * x.tdiv 4 ≤ x ∧ x < 4 * x.tdiv 4 + 4 := by rw [Int.tdiv_eq_ediv_of_nonneg h]; omega
theorem div8n (sm t : Int) (h : 0 ≤ sm) (ht : 0 ≤ t) : 8 * (sm + (t - sm.tdiv 8)).tdiv 8 ≤ sm + (t - sm.tdiv 8) ∧ sm + (t - sm.tdiv 8) < 8 * (sm + (t - sm.tdiv 8)).tdiv 8 + 8 := div8 _ (by have := div8 sm h; omega)
theorem arr {x : Array Value} {l : List Value} (h : x.toList = l) : x = l.toArray := by subst h; rfl
theorem docOf_eq {l : List Value} {c : Clk} (h : docOf l = some c) : l = c.doc := by
  unfold docOf at h
  split at h
  · cases h; rfl
  · cases h
theorem FS_ok : ∀ f rest l k p v, FSq Zr f rest l = some (k, p, v) → (l.take k).all flat0 = true ∧ rest.all flat = true ∧ flat v = true ∧ (p → SeeOk Try.prog f rest (l.take k) v) := by
  intro f rest l k p v h
  unfold FSq at h
  split at h
  · split at h
    · rename_i hf; have hf := eq_of_beq hf; subst hf
      split at h
      · cases h; exact ⟨rfl, rfl, rfl, fun hp => none_ok _ _ _ _ _ _ _ _ _ _ _ hp.1⟩
      · cases h
    · split at h
      · rename_i hf; have hf := eq_of_beq hf; subst hf
        split at h
        · cases h; exact ⟨rfl, rfl, rfl, fun hp => by
            obtain ⟨⟨q0, q1, q2, q3, q4, q5, q6, q7, q8, q9, q10, q11, q12, q13, q14, q15, q16⟩, ht⟩ := hp
            exact due_ok _ _ _ _ _ _ _ _ _ _ _ _ q0 q1 q2 q3 q4 q5 q6 q7 q8 q9 q10 q11 q12 q13 q14 q15 q16 ht.1 ht.2⟩
        · cases h
      · cases h
  · cases h
theorem FA_ok : ∀ f rest l p v l', FA Zr f rest l = some (p, v, l') → l.all flat0 = true ∧ l'.all flat0 = true ∧ rest.all flat = true ∧ flat v = true ∧ l'.length ≤ l.length ∧ (p → ActOk Try.prog f rest l v l') := by
  intro f rest l p v l' h
  unfold FA at h
  split at h
  · split at h
    · rename_i hf; have hf := eq_of_beq hf; subst hf
      split at h
      · cases h; refine ⟨rfl, rfl, rfl, rfl, Nat.le_refl _, fun hp => ?_⟩
        obtain ⟨⟨q0, q1, q2, q3, q4, q5, q6, q7, q8, q9, q10, q11, q12, q13, q14, q15, q16⟩, _⟩ := hp
        exact sto_ok _ _ _ _ _ _ _ _ _ _ _ q0 q1 q2 q3 q4 q5 q6 q7 q8 q9 q10 q11 q12 q13 q14 q15 q16 (div8 _ q6) (div4 _ q8)
      · cases h
    · split at h
      · rename_i hff
        split at h
        · split at h
          · rename_i hf; have hf := eq_of_beq hf; subst hf
            cases h; refine ⟨rfl, rfl, rfl, rfl, Nat.le_refl _, fun hp => ?_⟩
            obtain ⟨⟨q0, q1, q2, q3, q4, q5, q6, q7, q8, q9, q10, q11, q12, q13, q14, q15, q16⟩, ht⟩ := hp
            exact sam_ok _ _ _ _ _ _ _ _ _ _ _ _ q0 q1 q2 q3 q4 q5 q6 q7 q8 q9 q10 q11 q12 q13 q14 q15 q16 ht.1 ht.2 (div8 _ q6) (div4 _ q8) (div8n _ _ q6) (fun h0 => div8 _ (by omega))
          · split at h
            · rename_i hf; have hf := eq_of_beq hf; subst hf
              cases h; refine ⟨rfl, rfl, rfl, rfl, Nat.le_refl _, fun hp => ?_⟩
              obtain ⟨⟨q0, q1, q2, q3, q4, q5, q6, q7, q8, q9, q10, q11, q12, q13, q14, q15, q16⟩, ht⟩ := hp
              exact sta_ok _ _ _ _ _ _ _ _ _ _ _ _ q0 q1 q2 q3 q4 q5 q6 q7 q8 q9 q10 q11 q12 q13 q14 q15 q16 ht.1 ht.2
            · rename_i h1 h2
              have hf : f = 16 := by simp_all
              subst hf
              cases h; refine ⟨rfl, rfl, rfl, rfl, Nat.le_refl _, fun hp => ?_⟩
              obtain ⟨⟨q0, q1, q2, q3, q4, q5, q6, q7, q8, q9, q10, q11, q12, q13, q14, q15, q16⟩, ht⟩ := hp
              exact lat_ok _ _ _ _ _ _ _ _ _ _ _ _ q0 q1 q2 q3 q4 q5 q6 q7 q8 q9 q10 q11 q12 q13 q14 q15 q16 ht.1 ht.2
        · cases h
      · cases h
  · cases h
theorem FT_ok : ∀ f args p v, FT Zr f args = some (p, v) → args.all flat = true ∧ flat v = true ∧ (p → CallOk0 Try.prog f args v) := by
  intro f args p v h
  unfold FT at h
  split at h
  · rename_i hf; have hf := eq_of_beq hf; subst hf
    split at h
    · split at h
      · rename_i c hc
        have e := arr (docOf_eq hc); subst e
        cases h; refine ⟨rfl, rfl, fun hp => ?_⟩
        obtain ⟨⟨q0, q1, q2, q3, q4, q5, q6, q7, q8, q9, q10, q11, q12, q13, q14, q15, q16⟩, _⟩ := hp
        exact rsto_ok c.fi c.le c.mo c.tr c.an c.sm c.sp c.wa c.td c.ru c.si q0 q1 q2 q3 q4 q5 q6 q7 q8 q9 q10 q11 q12 q13 q14 q15 q16 (div8 _ q6) (div4 _ q8)
      · cases h
    · cases h
  · split at h
    · rename_i hff
      split at h
      · rename_i x t
        split at h
        · rename_i c hc
          have e := arr (docOf_eq hc); subst e
          split at h
          · rename_i hf; have hf := eq_of_beq hf; subst hf
            cases h; refine ⟨rfl, rfl, fun hp => ?_⟩
            obtain ⟨⟨q0, q1, q2, q3, q4, q5, q6, q7, q8, q9, q10, q11, q12, q13, q14, q15, q16⟩, ht⟩ := hp
            exact rsam_ok c.fi c.le c.mo c.tr c.an c.sm c.sp c.wa c.td c.ru c.si t q0 q1 q2 q3 q4 q5 q6 q7 q8 q9 q10 q11 q12 q13 q14 q15 q16 ht.1 ht.2 (div8 _ q6) (div4 _ q8) (div8n _ _ q6) (fun h0 => div8 _ (by omega))
          · split at h
            · rename_i hf; have hf := eq_of_beq hf; subst hf
              cases h; refine ⟨rfl, rfl, fun hp => ?_⟩
              obtain ⟨⟨q0, q1, q2, q3, q4, q5, q6, q7, q8, q9, q10, q11, q12, q13, q14, q15, q16⟩, ht⟩ := hp
              exact rsta_ok c.fi c.le c.mo c.tr c.an c.sm c.sp c.wa c.td c.ru c.si t q0 q1 q2 q3 q4 q5 q6 q7 q8 q9 q10 q11 q12 q13 q14 q15 q16 ht.1 ht.2
            · split at h
              · rename_i hf; have hf := eq_of_beq hf; subst hf
                cases h; refine ⟨rfl, rfl, fun hp => ?_⟩
                obtain ⟨⟨q0, q1, q2, q3, q4, q5, q6, q7, q8, q9, q10, q11, q12, q13, q14, q15, q16⟩, ht⟩ := hp
                exact rlat_ok c.fi c.le c.mo c.tr c.an c.sm c.sp c.wa c.td c.ru c.si t q0 q1 q2 q3 q4 q5 q6 q7 q8 q9 q10 q11 q12 q13 q14 q15 q16 ht.1 ht.2
              · have hf : f = 26 := by simp_all
                subst hf
                cases h; refine ⟨rfl, rfl, fun hp => ?_⟩
                obtain ⟨⟨q0, q1, q2, q3, q4, q5, q6, q7, q8, q9, q10, q11, q12, q13, q14, q15, q16⟩, ht⟩ := hp
                exact rdue_ok c.fi c.le c.mo c.tr c.an c.sm c.sp c.wa c.td c.ru c.si t q0 q1 q2 q3 q4 q5 q6 q7 q8 q9 q10 q11 q12 q13 q14 q15 q16 ht.1 ht.2
        · cases h
      · cases h
    · cases h
def KD (Z : Fns) : Given := Given.tells (Given.acts (Given.sees Given.nothing (FSq Z)) (FA Z)) (FT Z)
theorem KD_ok : GivenOk Try.prog (KD Zr) := GivenOk.tells (GivenOk.acts (GivenOk.sees (GivenOk.nothing _) FS_ok) FA_ok) FT_ok
end

end rn
end Go.Proofs.Ythgiflgofdmamab
namespace Go.Proofs.Ythgiflgofdmamab
open Go.ChangeShapes Go.WideShapes Go.ChangeAt Go.RowKit Go.Cln
namespace rn
set_option linter.unusedVariables false
set_option linter.unusedSimpArgs false
noncomputable section
def nearF (c : Clk) (n : Int) (ne : Bool) : Int := if ne = true then if -100 ≤ n then if n ≤ 100 then n + c.si + c.wa else n else n else n
def doesF (Z : Fns) (c : Clk) (k n : Int) (ne : Bool) : Clk := if k = 1 then Z.sam c n else if k = 2 then Z.sta c (nearF c n ne) else if k = 3 then Z.sto c else if k = 4 then Z.lat c (nearF c n ne) else c
end

end rn
end Go.Proofs.Ythgiflgofdmamab
