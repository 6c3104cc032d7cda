/- Read off the code by the clean reading. -/
import Derived.Test.YthgiflgofdmamabClnR7
import Derived.Test.YthgiflgofdmamabClnR8
import Derived.Test.YthgiflgofdmamabRows
import Derived.WalkKit
import Derived.ProofKit
import Derived.Below
import Derived.IntWalk
set_option linter.unusedVariables false
set_option linter.unusedSimpArgs false
set_option linter.deprecated false
set_option maxRecDepth 100000
namespace Go.Proofs.Ythgiflgofdmamab
open Go.ChangeShapes Go.WideShapes Go.ChangeAt Go.RowKit Go.Cln
namespace rn
set_option linter.unusedVariables false
set_option linter.unusedSimpArgs false
set_option maxHeartbeats 4000000 in
theorem does_ok (fi : Int) (le : Int) (mo : Int) (tr : Int) (an : Bool) (sm : Int) (sp : Int) (wa : Int) (td : Int) (ru : Bool) (si : Int) (k : Int) (n : Int) (ne : Bool) (hg : Gd ⟨fi, le, mo, tr, an, sm, sp, wa, td, ru, si⟩) (n0 : -9223372036854775808 ≤ n) (n1 : n ≤ 9223372036854775807) : ActOk Try.prog 9 [.agg #[.int .i64 fi, .int .i64 le, .int .i64 mo, .int .i64 tr, .bool an, .int .i64 sm, .int .i64 sp, .int .i64 wa, .int .i64 si, .int .i64 td, .bool ru], .agg #[.int .i64 k, .int .i64 n, .bool ne]] [.int .i64 fi, .int .i64 le, .int .i64 mo, .int .i64 tr, .bool an, .int .i64 sm, .int .i64 sp, .int .i64 wa, .int .i64 td, .bool ru, .int .i64 si] (.tuple #[.agg (doesF Zr ⟨fi, le, mo, tr, an, sm, sp, wa, td, ru, si⟩ k n ne).doc.toArray, .bool true]) (doesF Zr ⟨fi, le, mo, tr, an, sm, sp, wa, td, ru, si⟩ k n ne).cells := by
  obtain ⟨g0, g1, g2, g3, g4, g5, g6, g7, g8, g9, g10, g11, g12, g13, g14, g15, cm⟩ := id hg
  by_cases h1 : ne = true
  · by_cases h2 : (-100) ≤ n
    · by_cases h3 : n ≤ 100
      · by_cases h4 : k = 1
        · exact does_q1 fi le mo tr an sm sp wa td ru si k n ne g0 g1 g2 g3 g4 g5 g6 g7 g8 g9 g10 g11 g12 g13 g14 g15 cm hg n0 n1 h1 h2 h3 h4
        · by_cases h5 : k = 2
          · exact does_q8 fi le mo tr an sm sp wa td ru si k n ne g0 g1 g2 g3 g4 g5 g6 g7 g8 g9 g10 g11 g12 g13 g14 g15 cm hg n0 n1 h1 h2 h3 h4 h5
          · by_cases h6 : k = 3
            · exact does_q7 fi le mo tr an sm sp wa td ru si k n ne g0 g1 g2 g3 g4 g5 g6 g7 g8 g9 g10 g11 g12 g13 g14 g15 cm hg n0 n1 h1 h2 h3 h4 h5 h6
            · by_cases h7 : k = 4
              · exact does_q6 fi le mo tr an sm sp wa td ru si k n ne g0 g1 g2 g3 g4 g5 g6 g7 g8 g9 g10 g11 g12 g13 g14 g15 cm hg n0 n1 h1 h2 h3 h4 h5 h6 h7
              · by_cases h8 : k = 5
                · exact does_q0 fi le mo tr an sm sp wa td ru si k n ne g0 g1 g2 g3 g4 g5 g6 g7 g8 g9 g10 g11 g12 g13 g14 g15 cm hg n0 n1 h1 h2 h3 h4 h5 h6 h7 h8
                · exact does_q11 fi le mo tr an sm sp wa td ru si k n ne g0 g1 g2 g3 g4 g5 g6 g7 g8 g9 g10 g11 g12 g13 g14 g15 cm hg n0 n1 h1 h2 h3 h4 h5 h6 h7 h8
      · by_cases h9 : k = 1
        · exact does_q13 fi le mo tr an sm sp wa td ru si k n ne g0 g1 g2 g3 g4 g5 g6 g7 g8 g9 g10 g11 g12 g13 g14 g15 cm hg n0 n1 h1 h2 h3 h9
        · by_cases h10 : k = 2
          · exact does_q12 fi le mo tr an sm sp wa td ru si k n ne g0 g1 g2 g3 g4 g5 g6 g7 g8 g9 g10 g11 g12 g13 g14 g15 cm hg n0 n1 h1 h2 h3 h9 h10
          · by_cases h11 : k = 3
            · exact does_q19 fi le mo tr an sm sp wa td ru si k n ne g0 g1 g2 g3 g4 g5 g6 g7 g8 g9 g10 g11 g12 g13 g14 g15 cm hg n0 n1 h1 h2 h3 h9 h10 h11
            · by_cases h12 : k = 4
              · exact does_q22 fi le mo tr an sm sp wa td ru si k n ne g0 g1 g2 g3 g4 g5 g6 g7 g8 g9 g10 g11 g12 g13 g14 g15 cm hg n0 n1 h1 h2 h3 h9 h10 h11 h12
              · by_cases h13 : k = 5
                · exact does_q10 fi le mo tr an sm sp wa td ru si k n ne g0 g1 g2 g3 g4 g5 g6 g7 g8 g9 g10 g11 g12 g13 g14 g15 cm hg n0 n1 h1 h2 h3 h9 h10 h11 h12 h13
                · exact does_q15 fi le mo tr an sm sp wa td ru si k n ne g0 g1 g2 g3 g4 g5 g6 g7 g8 g9 g10 g11 g12 g13 g14 g15 cm hg n0 n1 h1 h2 h3 h9 h10 h11 h12 h13
    · by_cases h14 : k = 1
      · exact does_q23 fi le mo tr an sm sp wa td ru si k n ne g0 g1 g2 g3 g4 g5 g6 g7 g8 g9 g10 g11 g12 g13 g14 g15 cm hg n0 n1 h1 h2 h14
      · by_cases h15 : k = 2
        · exact does_q21 fi le mo tr an sm sp wa td ru si k n ne g0 g1 g2 g3 g4 g5 g6 g7 g8 g9 g10 g11 g12 g13 g14 g15 cm hg n0 n1 h1 h2 h14 h15
        · by_cases h16 : k = 3
          · exact does_q9 fi le mo tr an sm sp wa td ru si k n ne g0 g1 g2 g3 g4 g5 g6 g7 g8 g9 g10 g11 g12 g13 g14 g15 cm hg n0 n1 h1 h2 h14 h15 h16
          · by_cases h17 : k = 4
            · exact does_q5 fi le mo tr an sm sp wa td ru si k n ne g0 g1 g2 g3 g4 g5 g6 g7 g8 g9 g10 g11 g12 g13 g14 g15 cm hg n0 n1 h1 h2 h14 h15 h16 h17
            · by_cases h18 : k = 5
              · exact does_q18 fi le mo tr an sm sp wa td ru si k n ne g0 g1 g2 g3 g4 g5 g6 g7 g8 g9 g10 g11 g12 g13 g14 g15 cm hg n0 n1 h1 h2 h14 h15 h16 h17 h18
              · exact does_q16 fi le mo tr an sm sp wa td ru si k n ne g0 g1 g2 g3 g4 g5 g6 g7 g8 g9 g10 g11 g12 g13 g14 g15 cm hg n0 n1 h1 h2 h14 h15 h16 h17 h18
  · by_cases h19 : k = 1
    · exact does_q2 fi le mo tr an sm sp wa td ru si k n ne g0 g1 g2 g3 g4 g5 g6 g7 g8 g9 g10 g11 g12 g13 g14 g15 cm hg n0 n1 h1 h19
    · by_cases h20 : k = 2
      · exact does_q3 fi le mo tr an sm sp wa td ru si k n ne g0 g1 g2 g3 g4 g5 g6 g7 g8 g9 g10 g11 g12 g13 g14 g15 cm hg n0 n1 h1 h19 h20
      · by_cases h21 : k = 3
        · exact does_q14 fi le mo tr an sm sp wa td ru si k n ne g0 g1 g2 g3 g4 g5 g6 g7 g8 g9 g10 g11 g12 g13 g14 g15 cm hg n0 n1 h1 h19 h20 h21
        · by_cases h22 : k = 4
          · exact does_q4 fi le mo tr an sm sp wa td ru si k n ne g0 g1 g2 g3 g4 g5 g6 g7 g8 g9 g10 g11 g12 g13 g14 g15 cm hg n0 n1 h1 h19 h20 h21 h22
          · by_cases h23 : k = 5
            · exact does_q20 fi le mo tr an sm sp wa td ru si k n ne g0 g1 g2 g3 g4 g5 g6 g7 g8 g9 g10 g11 g12 g13 g14 g15 cm hg n0 n1 h1 h19 h20 h21 h22 h23
            · exact does_q17 fi le mo tr an sm sp wa td ru si k n ne g0 g1 g2 g3 g4 g5 g6 g7 g8 g9 g10 g11 g12 g13 g14 g15 cm hg n0 n1 h1 h19 h20 h21 h22 h23

end rn
end Go.Proofs.Ythgiflgofdmamab
namespace Go.Proofs.Ythgiflgofdmamab
open Go.ChangeShapes Go.WideShapes Go.ChangeAt Go.RowKit Go.Cln
namespace rn
set_option linter.unusedVariables false
set_option linter.unusedSimpArgs false
noncomputable section
structure Scr where
  k : Nat → Int
  n : Nat → Int
  b : Nat → Bool
def Scr.row (S : Scr) (i : Nat) : List Value := [.int .i64 (S.k i), .int .i64 (S.n i), .bool (S.b i)]
structure Bd where
  fi : Int
  le : Int
  mo : Int
  tr : Int
def Bd.row (B : Bd) : List Value := [.int .i64 B.fi, .int .i64 B.le, .int .i64 B.mo, .int .i64 B.tr]
def newC (B : Bd) : Clk := ⟨B.fi, B.le, B.mo, B.tr, false, 0, 0, B.fi, 0, false, 0⟩
abbrev StepT := Clk → Int → Int → Bool → Clk
def FS2 (f : FuncId) (rest l : List Value) : Option (Nat × Prop × Value) := match l with
  | .int .i64 fi :: .int .i64 le :: .int .i64 mo :: .int .i64 tr :: .bool an :: .int .i64 sm :: .int .i64 sp :: .int .i64 wa :: .int .i64 td :: .bool ru :: .int .i64 si :: _ => if f == 27 then (match rest with
      | [] => some (11, 1 ≤ fi ∧ True, .bool false)
      | _ => none) else none
  | _ => none
def FA2 (F : StepT) (f : FuncId) (rest l : List Value) : Option (Prop × Value × List Value) := match l with
  | [.int .i64 fi, .int .i64 le, .int .i64 mo, .int .i64 tr, .bool an, .int .i64 sm, .int .i64 sp, .int .i64 wa, .int .i64 td, .bool ru, .int .i64 si] => if f == 9 then (match rest with
      | [.agg x, .agg y] => (match docOf x.toList with
        | some c => (match y.toList with
          | [.int .i64 k, .int .i64 n, .bool b] => some (c = ⟨fi, le, mo, tr, an, sm, sp, wa, td, ru, si⟩ ∧ Gd ⟨fi, le, mo, tr, an, sm, sp, wa, td, ru, si⟩ ∧ wfT n,
              .tuple #[.agg (F ⟨fi, le, mo, tr, an, sm, sp, wa, td, ru, si⟩ k n b).doc.toArray, .bool true], (F ⟨fi, le, mo, tr, an, sm, sp, wa, td, ru, si⟩ k n b).cells)
          | _ => none)
        | none => none)
      | _ => none) else none
  | _ => none
def sl (n c : Nat) : Value := .slice (some ⟨0, 0, none⟩) n c
def hp (S : Scr) (B : Bd) (n : Nat) (w : Clk) : Nat → Option Ob := fun i => match i with
  | 0 => some (.cells (.rows n 3 S.row) 0)
  | 1 => some (.cells (.lit B.row) 23)
  | 2 => some (.cells (.lit B.row) 23)
  | 3 => some (.cells (.lit [.int .i64 1, .int .i64 B.le, .int .i64 B.fi, .int .i64 B.mo, .int .i64 65536]) 3)
  | 4 => some (.cells (.lit [.int .i64 1, .int .i64 B.tr, .int .i64 100]) 3)
  | 5 => some (.cells (.lit w.cells) 53)
  | 6 => some (.cells (.lit B.row) 23)
  | 7 => some (.cells (.lit B.row) 23)
  | 8 => some (.cells (.lit (newC B).doc) 32)
  | 9 => some (.cells (.lit w.doc) 32)
  | _ => none
def mkL (S : Scr) (B : Bd) (n : Nat) (w : Clk) (t : List Value) : St := ⟨t, [], Tr.rebuild (hp S B n w) 10, 10, 1, [], fun _ => false, True, []⟩
def tE (B : Bd) (n c i : Nat) : List Value := [.agg (B.row).toArray, sl n c, P0 1 0] ++ U 1 ++ [.bool false, P0 5 0, .int .i64 0, P0 9 0, .int .i64 (i : Int)] ++ U 2 ++ [sl n c, .int .i64 (n : Int), .bool false] ++ U 1 ++ [.tuple #[P0 5 0, .int .i64 0], .agg (B.row).toArray, .tuple #[P0 5 0, .int .i64 0], P0 5 0, .int .i64 0, .agg (B.row).toArray] ++ J 1 ++ [.bool false] ++ U 9 ++ [.agg (B.row).toArray, .agg (newC B).doc.toArray] ++ U 51
def tR (B : Bd) (n c i : Nat) : List Value := [.agg (B.row).toArray, sl n c, P0 1 0] ++ U 1 ++ [.bool false, P0 5 0, .int .i64 0, P0 9 0, .int .i64 (i : Int)] ++ J 2 ++ [sl n c, .int .i64 (n : Int), .bool false] ++ U 1 ++ [.tuple #[P0 5 0, .int .i64 0], .agg (B.row).toArray, .tuple #[P0 5 0, .int .i64 0], P0 5 0, .int .i64 0, .agg (B.row).toArray] ++ J 1 ++ [.bool false] ++ U 9 ++ [.agg (B.row).toArray, .agg (newC B).doc.toArray] ++ J 6 ++ [.tuple #[.agg #[junk, junk, junk, junk, junk, junk, junk, junk, junk, junk, junk], junk]] ++ J 1 ++ [.agg #[junk, junk, junk, junk, junk, junk, junk, junk, junk, junk, junk]] ++ J 3 ++ [.agg #[junk, junk, junk], .tuple #[.agg #[junk, junk, junk, junk, junk, junk, junk, junk, junk, junk, junk], junk], .agg #[junk, junk, junk, junk, junk, junk, junk, junk, junk, junk, junk]] ++ J 5 ++ [.agg #[junk, junk, junk, junk, junk, junk, junk, junk, junk, junk, junk]] ++ J 24 ++ [.agg #[junk, junk, junk, junk, junk, junk, junk, junk, junk, junk, junk]] ++ U 5

theorem FS2_ok : ∀ f rest l k p v, FS2 f rest l = some (k, p, v) → (l.take k).all flat0 = true ∧ rest.all flat = true ∧ flat v = true ∧ (p → SeeOk Try.prog f rest (l.take k) v) := by
  intro f rest l k p v h
  unfold FS2 at h
  split at h
  · split at h
    · rename_i hf; have hf := eq_of_beq hf; subst hf
      split at h
      · cases h; exact ⟨rfl, rfl, rfl, fun hp => none_ok _ _ _ _ _ _ _ _ _ _ _ hp.1⟩
      · cases h
    · cases h
  · cases h
theorem FA2_ok : ∀ f rest l p v l', FA2 (doesF Zr) f rest l = some (p, v, l') → l.all flat0 = true ∧ l'.all flat0 = true ∧ rest.all flat = true ∧ flat v = true ∧ l'.length ≤ l.length ∧ (p → ActOk Try.prog f rest l v l') := by
  intro f rest l p v l' h
  unfold FA2 at h
  split at h
  · split at h
    · rename_i hf; have hf := eq_of_beq hf; subst hf
      split at h
      · split at h
        · rename_i x y c hx
          split at h
          · rename_i k n b hy
            have e1 := arr (docOf_eq hx); subst e1
            have e2 := arr hy; subst e2
            cases h
            refine ⟨rfl, rfl, rfl, rfl, Nat.le_refl _, fun hp => ?_⟩
            obtain ⟨rfl, hg, hn⟩ := hp
            exact does_ok _ _ _ _ _ _ _ _ _ _ _ k n b hg hn.1 hn.2
          · cases h
        · cases h
      · cases h
    · cases h
  · cases h
theorem knownRuns : ((mk Try.prog Given.nothing 200).call 5 [] (St.start 0 .leaf [])).map (fun r => (r.1, r.2.obl)) = some (.bool true, True) := by kernel_rfl
theorem known (W : World) : Calls Try.prog 5 #[] W fun e w' => e = .returned (.bool true) ∧ Below W.heap.size W w' := ran pg (GivenOk.nothing _) knownRuns trivial rfl rfl W
def KL (F : StepT) : Given := { Given.acts (Given.sees (Given.one 5 (.bool true)) FS2) (FA2 F) with fits := true }
theorem KL_ok : GivenOk Try.prog (KL (doesF Zr)) := (GivenOk.acts (GivenOk.sees (GivenOk.one (P := Try.prog) (f := 5) (v := .bool true) rfl known) FS2_ok) FA2_ok).fit
end

end rn
end Go.Proofs.Ythgiflgofdmamab
