/- Read off the code by the clean reading. -/
import Derived.Test.YtphiebmgeiekaaaClnTa
import Derived.Test.YtphiebmgeiekaaaClnWa
set_option linter.unusedVariables false
set_option linter.unusedSimpArgs false
set_option linter.deprecated false
set_option maxRecDepth 100000
namespace Go.Proofs.Ytphiebmgeiekaaa
open Go.ChangeShapes Go.WideShapes Go.ChangeAt Go.RowKit Go.Cln
namespace ha
open hc hx hy hz tb tc td
set_option linter.unusedVariables false
noncomputable section
noncomputable def body : Code := loopB Try.prog 21 0
noncomputable def fnV : Value := .func (.func 22) #[] #[.pointer (some ⟨1, 0, none⟩)]
noncomputable def z64 : List Value := List.replicate 64 (.int .u8 0)
noncomputable def H (L X : List Int) (n c : Nat) : Nat → Option Ob := fun i => match i with
  | 0 => some (.cells (.ints .u8 L) 5)
  | 1 => some (.cells (.lit [.slice (some ⟨0, 0, none⟩) n c]) 22)
  | 2 => some (.cells (.lit z64) 37)
  | 3 => some (.cells (.lit z64) 37)
  | 4 => some (.cells (.ints .u8 X) 37)
  | _ => none
noncomputable def E (L X : List Int) (n c : Nat) : St := ⟨[fnV, undef, P0 3 0, P0 4 0, undef, .int .i64 0] ++ U 9, [], Tr.rebuild (H L X n c) 5, 5, 1, [], fun _ => false, True, []⟩
noncomputable def R (L X : List Int) (n c : Nat) (i : Int) : St := ⟨[fnV, undef, P0 3 0, P0 4 0, junk, .int .i64 i] ++ J 8 ++ [undef], [], Tr.rebuild (H L X n c) 5, 5, 1, [], fun _ => false, True, []⟩
noncomputable def ix (i : Int) : Nat := 0 + i.toNat * 1
noncomputable def i1 (i : Int) : Int := IntKind.i64.wrap (i + 1)
noncomputable def pI (X : List Int) (i : Int) (p : Prop) : Prop := (p ∧ (0 ≤ i ∧ i < ((64 : Nat) : Int))) ∧ ix i + 1 ≤ X.length
noncomputable def pY (L X : List Int) (n : Nat) (i : Int) : Prop := pI X i ((((True ∧ decide (i < 64) = true) ∧ decide (i < (n : Int)) = true) ∧ (0 ≤ i ∧ i < (n : Int))) ∧ ix i < L.length)
noncomputable def pN (X : List Int) (n : Nat) (i : Int) : Prop := pI X i ((True ∧ decide (i < 64) = true) ∧ decide (i < (n : Int)) = false)
noncomputable def oY : List (Option Bool) := [some true, some true, some true, some true, some true, some true]
noncomputable def oN : List (Option Bool) := [some true, some false, some true, some true]
theorem kEY (L X : List Int) (n c : Nat) (rd : Option Nat) : ((mk Try.prog Given.nothing 200).code 21 rd body { E L X n c with obl := True, orc := oY }).map (fun r => (r.1, r.2.obl, seenIn r.2 (R L (X.set (ix 0) (L.getD (ix 0) 0)) n c (i1 0)) [])) =
    some (.normal, pY L X n 0, seenAs (R L (X.set (ix 0) (L.getD (ix 0) 0)) n c (i1 0)) [] 5) := by kernel_rfl
theorem kRY (L X : List Int) (n c : Nat) (i : Int) (rd : Option Nat) : ((mk Try.prog Given.nothing 200).code 21 rd body { R L X n c i with obl := True, orc := oY }).map (fun r => (r.1, r.2.obl, seenIn r.2 (R L (X.set (ix i) (L.getD (ix i) 0)) n c (i1 i)) [])) =
    some (.normal, pY L X n i, seenAs (R L (X.set (ix i) (L.getD (ix i) 0)) n c (i1 i)) [] 5) := by kernel_rfl
theorem kRN (L X : List Int) (n c : Nat) (i : Int) (rd : Option Nat) : ((mk Try.prog Given.nothing 200).code 21 rd body { R L X n c i with obl := True, orc := oN }).map (fun r => (r.1, r.2.obl, seenIn r.2 (R L (X.set (ix i) 0) n c (i1 i)) [])) =
    some (.normal, pN X n i, seenAs (R L (X.set (ix i) 0) n c (i1 i)) [] 5) := by kernel_rfl
theorem kX (L X : List Int) (n c : Nat) (i : Int) (rd : Option Nat) : ((mk Try.prog Given.nothing 200).code 21 rd body { R L X n c i with obl := True, orc := [some false] }).map (fun r => (r.1, r.2.obl, seenIn r.2 (R L X n c i) [])) =
    some (.exit 0, True ∧ decide (i < 64) = false, seenAs (R L X n c i) [] 5) := by kernel_rfl
theorem sEY (L X : List Int) (n c : Nat) (X0 : List Int) (rd : Option Nat) (hp : pY L X n 0) : Step Try.prog rd (E L X0 n c) body (E L X n c) (fun e t => e = .normal ∧ t = R L (X.set (ix 0) (L.getD (ix 0) 0)) n c (i1 0)) :=
  Step.std sw.pg (GivenOk.nothing _) (kEY L X n c rd) hp (show 5 ≤ 5 by decide) (g := H L (X.set (ix 0) (L.getD (ix 0) 0)) n c) rfl (by kernel_rfl)
theorem sRY (L X : List Int) (n c : Nat) (i : Int) (X0 : List Int) (rd : Option Nat) (hp : pY L X n i) : Step Try.prog rd (E L X0 n c) body (R L X n c i) (fun e t => e = .normal ∧ t = R L (X.set (ix i) (L.getD (ix i) 0)) n c (i1 i)) :=
  Step.std sw.pg (GivenOk.nothing _) (kRY L X n c i rd) hp (show 5 ≤ 5 by decide) (g := H L (X.set (ix i) (L.getD (ix i) 0)) n c) rfl (by kernel_rfl)
theorem sRN (L X : List Int) (n c : Nat) (i : Int) (X0 : List Int) (rd : Option Nat) (hp : pN X n i) : Step Try.prog rd (E L X0 n c) body (R L X n c i) (fun e t => e = .normal ∧ t = R L (X.set (ix i) 0) n c (i1 i)) :=
  Step.std sw.pg (GivenOk.nothing _) (kRN L X n c i rd) hp (show 5 ≤ 5 by decide) (g := H L (X.set (ix i) 0) n c) rfl (by kernel_rfl)
theorem sX (L X : List Int) (n c : Nat) (i : Int) (X0 : List Int) (rd : Option Nat) (hp : True ∧ decide (i < 64) = false) : Step Try.prog rd (E L X0 n c) body (R L X n c i) (fun e t => e = .exit 0 ∧ t = R L X n c i) :=
  Step.std sw.pg (GivenOk.nothing _) (kX L X n c i rd) hp (show 5 ≤ 5 by decide) (g := H L X n c) rfl (by kernel_rfl)
end
end ha
end Go.Proofs.Ytphiebmgeiekaaa
namespace Go.Proofs.Ytphiebmgeiekaaa
open Go.ChangeShapes Go.WideShapes Go.ChangeAt Go.RowKit Go.Cln
namespace ha
open hc hx hy hz tb tc td
set_option linter.unusedVariables false
noncomputable section
noncomputable def XI (L : List Int) (i : Nat) : List Int := L.take i ++ List.replicate (64 - (L.take i).length) 0
theorem XI_len {L : List Int} (h : L.length ≤ 64) (i : Nat) : (XI L i).length = 64 := by
  unfold XI
  rw [List.length_append, List.length_replicate, List.length_take]; omega
theorem XI_yes {L : List Int} {i : Nat} (h : i < L.length) (hl : L.length ≤ 64) : (XI L i).set i (L.getD i 0) = XI L (i + 1) := by
  unfold XI
  have e1 : (L.take i).length = i := by rw [List.length_take]; omega
  have e2 : (L.take (i + 1)).length = i + 1 := by rw [List.length_take]; omega
  rw [e1, e2, List.set_append_right _ _ (by omega), e1, Nat.sub_self]
  obtain ⟨k, hk⟩ : ∃ k, 64 - i = k + 1 := ⟨63 - i, by omega⟩
  rw [hk, List.replicate_succ, List.set_cons_zero, show 64 - (i + 1) = k by omega]
  rw [List.take_add_one, List.append_assoc, List.getD_eq_getElem?_getD, List.getElem?_eq_getElem h]
  rfl
theorem XI_no {L : List Int} {i : Nat} (h : L.length ≤ i) (hi : i < 64) : (XI L i).set i 0 = XI L (i + 1) := by
  unfold XI
  rw [List.take_of_length_le h, List.take_of_length_le (by omega), List.set_append_right _ _ h]
  congr 1
  apply List.ext_getElem?
  intro j
  rw [List.getElem?_set]
  by_cases hj : i - L.length = j
  · subst hj
    rw [if_pos rfl, if_pos (by simp; omega), List.getElem?_replicate, if_pos (by omega)]
  · rw [if_neg hj]
theorem XI_zero (L : List Int) : XI L 0 = List.replicate 64 0 := by unfold XI; simp
theorem XI_end {L : List Int} (h : L.length ≤ 64) : XI L 64 = L ++ List.replicate (64 - L.length) 0 := by unfold XI; rw [List.take_of_length_le h]
theorem ix_eq (i : Nat) : ix (i : Int) = i := by unfold ix; omega
theorem i1_eq {i : Nat} (h : i < 100) : i1 (i : Int) = ((i + 1 : Nat) : Int) := by unfold i1; rw [IntKind.wrap_i64]; omega
theorem pY_of {L : List Int} {i n : Nat} (hn : L.length = n) (h : i < n) (hl : n ≤ 64) : pY L (XI L i) n (i : Int) := by
  have := XI_len (L := L) (by omega) i
  unfold pY pI
  rw [ix_eq, this]
  exact ⟨⟨⟨⟨⟨⟨trivial, by rw [decide_eq_true_eq]; omega⟩, by rw [decide_eq_true_eq]; omega⟩, by omega⟩, by omega⟩, by omega⟩, by omega⟩
theorem pN_of {L : List Int} {i n : Nat} (hn : L.length = n) (h : n ≤ i) (hl : n ≤ 64) (hi : i < 64) : pN (XI L i) n (i : Int) := by
  have := XI_len (L := L) (by omega) i
  unfold pN pI
  rw [ix_eq, this]
  exact ⟨⟨⟨⟨trivial, by rw [decide_eq_true_eq]; omega⟩, by rw [decide_eq_false_iff_not]; omega⟩, by omega⟩, by omega⟩
theorem loopB9 (L : List Int) (n c : Nat) (hn : L.length = n) (h0 : 0 < n) (hl : n ≤ 64) (rd : Option Nat) :
    CodeOk Try.prog rd (.loop body) (E L (List.replicate 64 0) n c) (.exit 0) (R L (XI L 64) n c ((64 : Nat) : Int)) := by
  have e0 : ix 0 = 0 := rfl
  refine CodeOk.of_step (Step.loop (fun f t => (f = 64 ∧ t = E L (List.replicate 64 0) n c) ∨ ∃ i, 1 ≤ i ∧ i ≤ 64 ∧ f = 64 - i ∧ t = R L (XI L i) n c (i : Int)) ?_ 64 _ (.inl ⟨rfl, rfl⟩))
  rintro f t (⟨rfl, rfl⟩ | ⟨i, g1, g2, rfl, rfl⟩)
  · rw [← XI_zero L]
    refine (sEY L (XI L 0) n c (XI L 0) rd (pY_of (i := 0) hn h0 hl)).mono ?_
    rintro e t ⟨rfl, rfl⟩
    refine .inl ⟨rfl, 63, by omega, .inr ⟨1, by omega, by omega, rfl, ?_⟩⟩
    have e1 : i1 0 = ((1 : Nat) : Int) := i1_eq (i := 0) (by omega)
    rw [e0, XI_yes (by omega) (by omega), e1]
  · by_cases h64 : i = 64
    · subst h64
      refine (sX L (XI L 64) n c ((64 : Nat) : Int) _ rd ⟨trivial, by decide⟩).mono ?_
      rintro e t ⟨rfl, rfl⟩
      exact .inr ⟨(by intro x; cases x), rfl, rfl⟩
    · by_cases hi : i < n
      · refine (sRY L (XI L i) n c (i : Int) _ rd (pY_of hn hi hl)).mono ?_
        rintro e t ⟨rfl, rfl⟩
        refine .inl ⟨rfl, 64 - (i + 1), by omega, .inr ⟨i + 1, by omega, by omega, rfl, ?_⟩⟩
        rw [ix_eq, XI_yes (by omega) (by omega), i1_eq (by omega)]
      · refine (sRN L (XI L i) n c (i : Int) _ rd (pN_of hn (by omega) hl (by omega))).mono ?_
        rintro e t ⟨rfl, rfl⟩
        refine .inl ⟨rfl, 64 - (i + 1), by omega, .inr ⟨i + 1, by omega, by omega, rfl, ?_⟩⟩
        rw [ix_eq, XI_no (by omega) (by omega), i1_eq (by omega)]
end
end ha
end Go.Proofs.Ytphiebmgeiekaaa
namespace Go.Proofs.Ytphiebmgeiekaaa
open Go.ChangeShapes Go.WideShapes Go.ChangeAt Go.RowKit Go.Cln
namespace ha
open hc hx hy hz tb tc td
set_option linter.unusedVariables false
noncomputable section
noncomputable def ask20 (S1 : St) (f : FuncId) (c : Code) (S : St) : Option Ask2 := if f == 21 then some ⟨⟨[], [(4, .u8)], [], []⟩, .exit 0, fun _ => S1⟩ else none
noncomputable def r9 (L X : List Int) (n c : Nat) : Option (Value × St) := (mk Try.prog (Given.asking2 Given.nothing Try.prog (ask20 (R L X n c ((64 : Nat) : Int)))) 300).call 13 [.slice (some ⟨0, 0, none⟩) n c] (smSt 1 (hB L) [some false, some false, some true])
noncomputable def bV (X : List Int) : Value := .agg (rowV .u8 64 (ch X)).toArray
noncomputable def o9 (L : List Int) (k : Nat) : List (Option Ob) := some (Ob.cells (.ints .u8 L) 5) :: List.replicate k none
noncomputable def p9 (L X : List Int) (n c : Nat) : Prop := (((True ∧ decide ((n : Int) > 1048576) = false) ∧ decide ((n : Int) > 64) = false) ∧ ∀ rd, CodeOk Try.prog rd (.loop body) (E L (List.replicate 64 0) n c) (.exit 0) (R L X n c ((64 : Nat) : Int))) ∧ 0 + 64 ≤ X.length
theorem run9 (L X : List Int) (n c : Nat) : (r9 L X n c).map (fun r => (r.1, r.2.obl, r.2.next, keepL (true :: List.replicate 4 false) r.2.heap.get 0)) =
    some (.tuple #[bV X, .int .i64 0], p9 L X n c, (o9 L 4).length, o9 L 4) := by kernel_rfl
noncomputable def r9l (D : List Int → sw.N5) (L : List Int) (n c : Nat) : Option (Value × St) := (mk Try.prog (Given.frames Given.nothing (FD D)) 300).call 13 [.slice (some ⟨0, 0, none⟩) n c] (smSt 1 (hB L) [some false, some true])
end
end ha
end Go.Proofs.Ytphiebmgeiekaaa
namespace Go.Proofs.Ytphiebmgeiekaaa
open Go.ChangeShapes Go.WideShapes Go.ChangeAt Go.RowKit Go.Cln
namespace ha
open hc hx hy hz tb tc td
set_option linter.unusedVariables false
noncomputable section
namespace rr
noncomputable def body : Code := loopB Try.prog 19 0
noncomputable def H (L X : List Int) : Nat → Option Ob := fun i => match i with
  | 0 => some (.cells (.ints .u8 L) 5)
  | 1 => some (.cells (.lit z64) 37)
  | 2 => some (.cells (.ints .u8 X) 37)
  | _ => none
noncomputable def hd (n c : Nat) (i : Int) : List Value := [.slice (some ⟨0, 0, none⟩) n c, undef, P0 1 0, P0 2 0, undef, .int .i64 i] ++ J 3
noncomputable def E (L X : List Int) (n c : Nat) : St := ⟨hd n c 0 ++ U 16, [], Tr.rebuild (H L X) 3, 3, 1, [], fun _ => false, True, []⟩
noncomputable def R (L X : List Int) (n c : Nat) (i : Int) : St := ⟨hd n c i ++ (U 3 ++ (J 12 ++ [undef])), [], Tr.rebuild (H L X) 3, 3, 1, [], fun _ => false, True, []⟩
noncomputable def pY (L X : List Int) (n : Nat) (i : Int) : Prop := pI X i (((True ∧ decide (i < (n : Int)) = true) ∧ (0 ≤ i ∧ i < (n : Int))) ∧ ix i < L.length)
noncomputable def oY : List (Option Bool) := [some true, some true, some true, some true, some true]
theorem kEY (L X : List Int) (n c : Nat) (rd : Option Nat) : ((mk Try.prog Given.nothing 200).code 19 rd body { E L X n c with obl := True, orc := oY }).map (fun r => (r.1, r.2.obl, seenIn r.2 (R L (X.set (ix 0) (L.getD (ix 0) 0)) n c (i1 0)) [])) =
    some (.normal, pY L X n 0, seenAs (R L (X.set (ix 0) (L.getD (ix 0) 0)) n c (i1 0)) [] 3) := by kernel_rfl
theorem kRY (L X : List Int) (n c : Nat) (i : Int) (rd : Option Nat) : ((mk Try.prog Given.nothing 200).code 19 rd body { R L X n c i with obl := True, orc := oY }).map (fun r => (r.1, r.2.obl, seenIn r.2 (R L (X.set (ix i) (L.getD (ix i) 0)) n c (i1 i)) [])) =
    some (.normal, pY L X n i, seenAs (R L (X.set (ix i) (L.getD (ix i) 0)) n c (i1 i)) [] 3) := by kernel_rfl
theorem kX (L X : List Int) (n c : Nat) (i : Int) (rd : Option Nat) : ((mk Try.prog Given.nothing 200).code 19 rd body { R L X n c i with obl := True, orc := [some false] }).map (fun r => (r.1, r.2.obl, seenIn r.2 (R L X n c i) [])) =
    some (.exit 0, True ∧ decide (i < (n : Int)) = false, seenAs (R L X n c i) [] 3) := by kernel_rfl
theorem sEY (L X : List Int) (n c : Nat) (rd : Option Nat) (hp : pY L X n 0) : Step Try.prog rd (E L X n c) body (E L X n c) (fun e t => e = .normal ∧ t = R L (X.set (ix 0) (L.getD (ix 0) 0)) n c (i1 0)) :=
  Step.std sw.pg (GivenOk.nothing _) (kEY L X n c rd) hp (show 3 ≤ 3 by decide) (g := H L (X.set (ix 0) (L.getD (ix 0) 0))) rfl (by kernel_rfl)
theorem sRY (L X : List Int) (n c : Nat) (i : Int) (X0 : List Int) (rd : Option Nat) (hp : pY L X n i) : Step Try.prog rd (E L X0 n c) body (R L X n c i) (fun e t => e = .normal ∧ t = R L (X.set (ix i) (L.getD (ix i) 0)) n c (i1 i)) :=
  Step.std sw.pg (GivenOk.nothing _) (kRY L X n c i rd) hp (show 3 ≤ 3 by decide) (g := H L (X.set (ix i) (L.getD (ix i) 0))) rfl (by kernel_rfl)
theorem sX (L X : List Int) (n c : Nat) (i : Int) (X0 : List Int) (rd : Option Nat) (hp : True ∧ decide (i < (n : Int)) = false) : Step Try.prog rd (E L X0 n c) body (R L X n c i) (fun e t => e = .exit 0 ∧ t = R L X n c i) :=
  Step.std sw.pg (GivenOk.nothing _) (kX L X n c i rd) hp (show 3 ≤ 3 by decide) (g := H L X) rfl (by kernel_rfl)
theorem pY_of {L : List Int} {i n : Nat} (hn : L.length = n) (h : i < n) (hl : n ≤ 64) : pY L (XI L i) n (i : Int) := by
  have := XI_len (L := L) (by omega) i
  unfold pY pI
  rw [ix_eq, this]
  exact ⟨⟨⟨⟨⟨trivial, by rw [decide_eq_true_eq]; omega⟩, by omega⟩, by omega⟩, by omega⟩, by omega⟩
noncomputable def ask11 (S1 : St) (f : FuncId) (c : Code) (S : St) : Option Ask2 := if f == 19 then some ⟨⟨[6, 7, 8], [(2, .u8)], [], []⟩, .exit 0, fun _ => S1⟩ else none
noncomputable def r11 (L X : List Int) (n c : Nat) : Option (Value × St) := (mk Try.prog (Given.asking2 Given.nothing Try.prog (ask11 (R L X n c ((n : Nat) : Int)))) 300).call 19 [.slice (some ⟨0, 0, none⟩) n c] (smSt 1 (hB L) [some false, some true])
noncomputable def p11 (L X : List Int) (n c : Nat) : Prop := ((True ∧ decide ((n : Int) > 64) = false) ∧ ∀ rd, CodeOk Try.prog rd (.loop body) (E L (List.replicate 64 0) n c) (.exit 0) (R L X n c ((n : Nat) : Int))) ∧ 0 + 64 ≤ X.length
noncomputable def r11n : Option (Value × St) := (mk Try.prog Given.nothing 300).call 19 [.slice none 0 0] (smSt 0 [] [])
noncomputable def r11z (c : Nat) : Option (Value × St) := (mk Try.prog Given.nothing 300).call 19 [.slice (some ⟨0, 0, none⟩) 0 c] (smSt 1 [none] [])
end rr
end
end ha
end Go.Proofs.Ytphiebmgeiekaaa
namespace Go.Proofs.Ytphiebmgeiekaaa
open Go.ChangeShapes Go.WideShapes Go.ChangeAt Go.RowKit Go.Cln
namespace ha
open hc hx hy hz tb tc td
set_option linter.unusedVariables false
noncomputable section
noncomputable def kb (L : List Int) : List Int := if L.length ≤ 64 then L ++ List.replicate (64 - L.length) 0 else ot1 (shaN L) ++ List.replicate 44 0
noncomputable def wn (L : List Int) (n : Nat) : List Int := (L.drop 0).take n
noncomputable def big (D : List Int → sw.N5) (W : List Int) : List Int := ot1 (D W) ++ List.replicate 44 0
noncomputable def p9l (D : List Int → sw.N5) (L : List Int) (n c : Nat) : Prop := ((True ∧ decide ((n : Int) > 1048576) = false) ∧ decide ((n : Int) > 64) = true) ∧ (D = shaN ∧ Byt (wn L n) ∧ n = (wn L n).length ∧ n ≤ c ∧ n ≤ 1000000000)
theorem run9la (D : List Int → sw.N5) (L : List Int) (n c : Nat) : (r9l D L n c).map (fun r => (r.1, r.2.obl, r.2.next, keepL (true :: List.replicate 33 false) r.2.heap.get 0)) =
    some (.tuple #[bV (big D (wn L n)), .int .i64 0], p9l D L n c, (o9 L 33).length, o9 L 33) := by kernel_rfl
noncomputable def Z64 : List Int := List.replicate 64 0
noncomputable def nn (k : Nat) : List (Option Ob) := List.replicate k none
namespace rr
theorem run11n : r11n.map (fun r => (r.1, r.2.obl, r.2.next, keepL (List.replicate 2 false) r.2.heap.get 0)) = some (bV Z64, True, (nn 2).length, nn 2) := by kernel_rfl
end rr
theorem wn_eq {L : List Int} {n : Nat} (hn : n = L.length) : wn L n = L := by unfold wn; rw [List.drop_zero, hn, List.take_length]
theorem block9 (L : List Int) (n c : Nat) (hL : Byt L) (hn : n = L.length) (h0 : 0 < n) (hc : n ≤ c) (h : n ≤ 1048576) :
    CallOk Try.prog 13 [.slice (some ⟨0, 0, none⟩) n c] (smSt 1 (hB L) []) (.tuple #[bV (kb L), .int .i64 0]) (smSt 1 (o9 L 33) []) := by
  by_cases h64 : n ≤ 64
  · have e : XI L 64 = kb L := by unfold kb; rw [if_pos (by omega), XI_end (by omega)]
    have := frame_by sw.pg ((GivenOk.nothing _).asking2 _) _ (run9 L (XI L 64) n c) ⟨⟨⟨⟨trivial, by rw [decide_eq_false_iff_not]; omega⟩, by rw [decide_eq_false_iff_not]; omega⟩, fun rd => loopB9 L n c hn.symm h0 h64 rd⟩, by rw [XI_len (by omega)]; omega⟩ (by rfl) rfl
    rw [e] at this
    exact this.pad 29 (by simp [o9]) (by simp [hB]) (by simp [hB, o9])
  · have e : big shaN (wn L n) = kb L := by unfold kb big; rw [if_neg (by omega), wn_eq hn]
    have hp : p9l shaN L n c := by
      refine ⟨⟨⟨trivial, by rw [decide_eq_false_iff_not]; omega⟩, by rw [decide_eq_true_eq]; omega⟩, rfl, ?_, ?_, hc, by omega⟩
      · rw [wn_eq hn]; exact hL
      · rw [wn_eq hn]; exact hn
    have := frame_by sw.pg ((GivenOk.nothing _).frames (FD_ok shaN)) _ (run9la shaN L n c) hp (by rfl) rfl
    rw [e] at this; exact this
theorem run11a (F : Nat → Nat → Cells) (b o c : Nat) : ((mk Try.prog Given.nothing 300).call 19 [.slice (some ⟨b, o, some 1000⟩) 0 c] (smSt 1 [some (.fam F)] [])).map (fun r => (r.1, r.2.obl, r.2.next, keepL (true :: List.replicate 2 false) r.2.heap.get 0)) =
    some (bV Z64, True, (some (Ob.fam F) :: nn 2).length, some (Ob.fam F) :: nn 2) := by kernel_rfl
end
end ha
end Go.Proofs.Ytphiebmgeiekaaa
namespace Go.Proofs.Ytphiebmgeiekaaa
open Go.ChangeShapes Go.WideShapes Go.ChangeAt Go.RowKit Go.Cln
namespace ha
set_option linter.unusedVariables false
noncomputable section
theorem knownRuns : ((mk Try.prog (Given.calls sw.F14) 300).call 7 [] (St.start 0 .leaf [])).map (fun r => (r.1, r.2.obl)) = some (.bool true, True) := by kernel_rfl
theorem known (W : World) : Calls Try.prog 7 #[] W fun e w' => e = .returned (.bool true) ∧ Below W.heap.size W w' := ran sw.pg sw.F14_ok knownRuns trivial rfl rfl W
end
end ha
end Go.Proofs.Ytphiebmgeiekaaa
namespace Go.Proofs.Ytphiebmgeiekaaa
open Go.ChangeShapes Go.WideShapes Go.ChangeAt Go.RowKit Go.Cln
namespace hd
open hc hx hy hz tb tc td ha
set_option linter.unusedVariables false
noncomputable section
abbrev XT := Int → Int → Int
noncomputable def XR (XF : XT) (l : List Value) (p : Int) : Value := .agg (rowV .u8 64 (fun j => XF (intAt l j) p)).toArray
noncomputable def FP (XF : XT) (f : FuncId) (args : List Value) : Option Value := if f == 34 then match args with
  | [.agg x, .int .u8 p] => if x.toList.length = 64 ∧ x.toList.all (isKind .u8) = true then some (XR XF x.toList p) else none
  | _ => none else none
theorem run35 (b : Nat → Int) (p : Int) : ((mk Try.prog Given.nothing 300).call 34 [.agg (rowV .u8 64 b).toArray, .int .u8 p] (St.start 0 .leaf [])).map (fun r => (r.1, r.2.obl)) =
    some (.agg (rowV .u8 64 (fun j => xorI .u8 (b j) p)).toArray, True) := by kernel_rfl
theorem FP_ok : GivenOk Try.prog (Given.calls (FP (xorI .u8))) := GivenOk.calls fun f args v h => by
  unfold FP at h
  split at h
  · rename_i hf
    split at h
    · rename_i x p
      split at h
      · rename_i hc
        simp only [Option.some.injEq] at h
        subst h
        have hf' : f = 34 := by simpa using hf
        subst hf'
        obtain ⟨h3, h4⟩ := hc
        have e2 : x = (rowV .u8 64 (intAt x.toList)).toArray := by rw [rowV_of h3 h4]
        refine ⟨?_, rfl, fun W => ?_⟩
        · rw [e2]; rfl
        · have := ranF sw.pg (GivenOk.nothing _) (run35 (intAt x.toList) p) trivial rfl rfl W
          rw [← e2] at this
          exact this
      · cases h
    · cases h
  · cases h
def iL (r : List Value) : List Int := r.map fun v => match v with | .int _ x => x | _ => 0
theorem iL_get {k : IntKind} {r : List Value} (h : r.all (isKind k) = true) {x : Nat} {a : Int} (hx : (iL r)[x]? = some a) : r[x]? = some (.int k a) := by
  unfold iL at hx
  rw [List.getElem?_map, Option.map_eq_some_iff] at hx
  obtain ⟨v, hv, e⟩ := hx
  have := List.all_eq_true.1 h v (List.mem_of_getElem? hv)
  rw [hv]
  cases v <;> simp [isKind] at this
  subst this
  simp only at e
  rw [e]
theorem iL_win {k : IntKind} {r : List Value} {o n : Nat} (h : ((r.drop o).take n).all (isKind k) = true) : ∀ x a, (iL ((r.drop o).take n))[x]? = some a → r[o + x]? = some (.int k a) := fun x a hx => by
  have := iL_get h hx
  rw [List.getElem?_take] at this
  split at this
  · rw [List.getElem?_drop] at this; exact this
  · cases this
end
end hd
end Go.Proofs.Ytphiebmgeiekaaa
namespace Go.Proofs.Ytphiebmgeiekaaa
open Go.ChangeShapes Go.WideShapes Go.ChangeAt Go.RowKit Go.Cln
namespace hd
open hc hx hy hz tb tc td ha
set_option linter.unusedVariables false
noncomputable section
def FL (A : List Int → HS → HS) (D : List Int → sw.N5) (f : FuncId) (args : List Value) (s : St) : Option Inst := if f == 35 then match args with
  | [.pointer (some ⟨p, 0, none⟩), .slice (some ⟨b, o, g⟩) n c] => match s.heap.get p with
    | some (.cells (.lit l) _) => match s.heap.get b with
      | some (.cells (.lit r) _) => if okH l = true ∧ gOk g = true ∧ ((r.drop o).take n).all (isKind .u8) = true then
          some ⟨[(b, o), (p, 0)], 1, [some (Ob.cells (.ints .u8 (iL ((r.drop o).take n))) 5), some (.cells (.lit l) 77)], [.pointer (some ⟨1, 0, none⟩), .slice (some ⟨0, 0, g⟩) n c], .int .i64 0,
            some (Ob.cells (.ints .u8 (iL ((r.drop o).take n))) 5) :: some (objH (A (iL ((r.drop o).take n)) (hOf l)) (IntKind.i64.wrap (intAt l 70 + (n : Int)))) :: List.replicate 6 none, A = AB ∧ 0 ≤ intAt l 64 ∧ intAt l 64 < 64 ∧ n = (iL ((r.drop o).take n)).length ∧ n ≤ c⟩
        else none
      | _ => none
    | _ => none
  | _ => none else if f == 20 then match args with
  | [.slice (some ⟨b, o, g⟩) n c] => match s.heap.get b with
    | some (.cells (.lit r) _) => if gOk g = true ∧ ((r.drop o).take n).all (isKind .u8) = true then some ⟨[(b, o)], 1, hB (iL ((r.drop o).take n)), [.slice (some ⟨0, 0, g⟩) n c], outV (D (iL ((r.drop o).take n))), out12 (iL ((r.drop o).take n)), D = shaN ∧ n = (iL ((r.drop o).take n)).length ∧ 0 < n ∧ n ≤ 1000000000⟩ else none
    | _ => none
  | _ => none else none
theorem FL_ok (A : List Int → HS → HS) (D : List Int → sw.N5) (f : FuncId) (args : List Value) (s : St) (i : Inst) (h : FL A D f args s = some i) : Fits s i args ∧ (i.ask → CallOk Try.prog f i.args i.s0 i.val i.s1) := by
  unfold FL at h
  split at h
  · rename_i hf
    have hf' : f = 35 := by simpa using hf
    subst hf'
    split at h
    · rename_i p b o g n c
      split at h
      · rename_i l tp hp
        split at h
        · rename_i r tb hb
          split at h
          · rename_i hc
            obtain ⟨hok, hg, hr⟩ := hc
            cases h
            have hl := okH_eq hok
            refine ⟨⟨?_, fun j pp ob h1 h2 => ?_⟩, fun ha => ?_⟩
            · have e : [Value.pointer (some ⟨p, 0, none⟩), .slice (some ⟨b, o, g⟩) n c] = [.pointer (some ⟨p, 0, none⟩), .slice (some ⟨b, addO o 0, g⟩) n c] := by rw [addO_eq]; rfl
              rcases gOk_eq hg with rfl | rfl <;> exact e
            · rcases j with _ | _ | j
              · simp only [List.getElem?_cons_zero, Option.some.injEq] at h1
                subst h1
                simp only [List.getElem?_cons_zero, Option.some.injEq] at h2
                subst h2
                exact ⟨_, hb, fit_intsL (iL_win hr)⟩
              · simp only [Nat.zero_add, List.getElem?_cons_succ, List.getElem?_cons_zero, Option.some.injEq] at h1
                subst h1
                simp only [Nat.zero_add, List.getElem?_cons_succ, List.getElem?_cons_zero, Option.some.injEq] at h2
                subst h2
                exact ⟨_, hp, fit_flat (fun x v hx => by rw [Nat.zero_add]; exact hx) (by rw [hl]; exact cH_flat _ _)⟩
              · simp at h1
            · obtain ⟨rfl, q1, q2, q3, q4⟩ := ha
              have := wr (iL ((r.drop o).take n)) n c g (gOk_eq hg) (hOf l) (intAt l 70) q1 q2 q3 q4
              unfold objH at this
              rw [← hl] at this
              exact this
          · cases h
        · cases h
      · cases h
    · cases h
  · split at h
    · rename_i hf
      have hf' : f = 20 := by simpa using hf
      subst hf'
      split at h
      · rename_i b o g n c
        split at h
        · rename_i r tb hb
          split at h
          · rename_i hgr
            obtain ⟨hg, hr⟩ := hgr
            cases h
            refine ⟨⟨?_, fun j pp ob h1 h2 => ?_⟩, fun ha => ?_⟩
            · have e : [Value.slice (some ⟨b, o, g⟩) n c] = [Value.slice (some ⟨b, addO o 0, g⟩) n c] := by rw [addO_eq]; rfl
              rcases gOk_eq hg with rfl | rfl <;> exact e
            · rcases j with _ | j
              · simp only [List.getElem?_cons_zero, Option.some.injEq] at h1
                subst h1
                simp only [hB, List.getElem?_cons_zero, Option.some.injEq] at h2
                subst h2
                exact ⟨_, hb, fit_intsL (iL_win hr)⟩
              · simp at h1
            · obtain ⟨rfl, q1, q2, q3⟩ := ha
              rcases gOk_eq hg with rfl | rfl
              · exact sumR _ n c q1 q2 q3
              · exact CallOk.grow [] [] (fun c _ => sumR _ n c q1 q2 q3) c
          · cases h
        · cases h
      · cases h
    · cases h
end
end hd
end Go.Proofs.Ytphiebmgeiekaaa
namespace Go.Proofs.Ytphiebmgeiekaaa
open Go.ChangeShapes Go.WideShapes Go.ChangeAt Go.RowKit Go.Cln
namespace hd
open hc hx hy hz tb tc td ha
set_option linter.unusedVariables false
noncomputable section
abbrev KT' := List Int → List Int
abbrev DT := List Int → sw.N5
abbrev AT := List Int → HS → HS
abbrev ET := HS → Nat → sw.N5
def xl (B : List Int) (p : Int) : List Int := (List.range 64).map fun j => xorI .u8 (ch B j) p
def IN (KF : KT') (W : List Int) (M : List Int) (m : Nat) : List Int := List.take (64 + m) (xl (KF W) 54 ++ List.take m M)
def tgD (KF : KT') (D : DT) (W : List Int) (X : List Int) : sw.N5 := D (xl (KF W) 92 ++ ot1 (D X))
def w36 (A : AT) (l : List Value) (W : List Int) (n c : Nat) : Prop := A = AB ∧ 0 ≤ intAt l 64 ∧ intAt l 64 < 64 ∧ n = W.length ∧ n ≤ c
def g36 (A : AT) (l : List Value) (W : List Int) (n : Nat) : List Value := cH (A W (hOf l)) (IntKind.i64.wrap (intAt l 70 + (n : Int)))
def s28 (E : ET) (l : List Value) : Prop := E = DS ∧ 0 ≤ intAt l 70 ∧ intAt l 70 ≤ 1152921504606846976 ∧ intAt l 64 = (((intAt l 70).toNat % 64 : Nat) : Int)
def v28 (E : ET) (l : List Value) : sw.N5 := E (hOf l) (intAt l 70).toNat
def q1 (KF : KT') (A : AT) (W : List Int) : List Value := g36 A l0 (xl (KF W) 54) 64
def q2 (KF : KT') (A : AT) (W X : List Int) (m : Nat) : List Value := g36 A (q1 KF A W) X m
def q3 (KF : KT') (A : AT) (W : List Int) : List Value := g36 A l0 (xl (KF W) 92) 64
def q4 (KF : KT') (A : AT) (W Y : List Int) : List Value := g36 A (q3 KF A W) Y 20
def y12 (A : AT) (E : ET) (KF : KT') (W : List Int) (l : List Value) : Value := .tuple #[outV (v28 E (q4 KF A W (ot1 (v28 E l)))), .int .i64 0]
def Hs (l : List Value) (M : List Int) : Prop := SemH (hOf l) M ∧ intAt l 70 = ((M.length : Nat) : Int) ∧ intAt l 64 = ((M.length % 64 : Nat) : Int) ∧ M.length ≤ 1000000 ∧ Byt M
theorem Hs.zero : Hs l0 [] := ⟨SemH.zero, rfl, rfl, by decide, fun x hx => by cases hx⟩
theorem Hs.add {l : List Value} {M X : List Int} {n : Nat} (h : Hs l M) (hX : Byt X) (hn : n = X.length) (hb : M.length + n ≤ 1000000) : Hs (g36 AB l X n) (M ++ X) := by
  obtain ⟨k1, k2, k3, k4, k5⟩ := h
  have s1 := k1.AB k5 hX
  refine ⟨s1.cells _, ?_, ?_, by rw [List.length_append]; omega, byt_app k5 hX⟩
  · show IntKind.i64.wrap (intAt l 70 + (n : Int)) = _
    rw [k2, IntKind.wrap_i64, List.length_append]; omega
  · show (AB X (hOf l)).rn = _
    exact s1.rn
theorem Hs.w {l : List Value} {M X : List Int} {n c : Nat} (h : Hs l M) (hn : n = X.length) (hc : n ≤ c) : w36 AB l X n c := by
  obtain ⟨k1, k2, k3, k4, k5⟩ := h
  exact ⟨rfl, by rw [k3]; omega, by rw [k3]; omega, hn, hc⟩
theorem Hs.s {l : List Value} {M : List Int} (h : Hs l M) : s28 DS l := by
  obtain ⟨k1, k2, k3, k4, k5⟩ := h
  exact ⟨rfl, by rw [k2]; omega, by rw [k2]; omega, by rw [k3, k2, Int.toNat_natCast]⟩
theorem Hs.v {l : List Value} {M : List Int} (h : Hs l M) : v28 DS l = shaN M := by
  obtain ⟨k1, k2, k3, k4, k5⟩ := h
  unfold v28
  rw [k2, Int.toNat_natCast]
  exact k1.DS k5
theorem xl_len (B : List Int) (p : Int) : (xl B p).length = 64 := by unfold xl; simp
theorem xl_byt (B : List Int) (p : Int) : Byt (xl B p) := fun x hx => by
  unfold xl at hx
  obtain ⟨j, _, rfl⟩ := List.mem_map.1 hx
  unfold xorI
  rw [IntKind.wrap_u8]; omega
theorem ot_len (X : sw.N5) : (ot1 X).length = 20 := rfl
theorem ot_byt (X : sw.N5) : Byt (ot1 X) := fun x hx => by
  have key : ∀ (l : List Int), (∀ y ∈ l, ∃ z, y = IntKind.u8.wrap z) → Byt l := fun l h y hy => by
    obtain ⟨z, rfl⟩ := h y hy
    rw [IntKind.wrap_u8]; omega
  revert x hx
  refine key _ fun y hy => ?_
  unfold ot1 be4 at hy
  simp only [List.mem_append, List.mem_cons, List.not_mem_nil, or_false] at hy
  rcases hy with h | h | h | h | h <;> (rcases h with rfl | rfl | rfl | rfl <;> exact ⟨_, rfl⟩)
theorem hs1 (W : List Int) : Hs (q1 kb AB W) (xl (kb W) 54) := by
  have := Hs.zero.add (X := xl (kb W) 54) (n := 64) (xl_byt _ _) (xl_len _ _).symm (by decide)
  exact this
theorem hs2 {W X : List Int} {m : Nat} (hX : Byt X) (hm : m = X.length) (h : m ≤ 10000) : Hs (q2 kb AB W X m) (xl (kb W) 54 ++ X) :=
  (hs1 W).add hX hm (by rw [xl_len]; omega)
theorem hs3 (W : List Int) : Hs (q3 kb AB W) (xl (kb W) 92) := by
  have := Hs.zero.add (X := xl (kb W) 92) (n := 64) (xl_byt _ _) (xl_len _ _).symm (by decide)
  exact this
theorem hs4 (W : List Int) (Y : sw.N5) : Hs (q4 kb AB W (ot1 Y)) (xl (kb W) 92 ++ ot1 Y) :=
  (hs3 W).add (ot_byt Y) rfl (by rw [xl_len]; decide)
theorem rest_ok {W M : List Int} {l : List Value} {p : Prop} (h : Hs l M) (hp : p) :
    (((p ∧ s28 DS l) ∧ w36 AB l0 (xl (kb W) 92) 64 64) ∧ w36 AB (q3 kb AB W) (ot1 (v28 DS l)) 20 20) ∧ s28 DS (q4 kb AB W (ot1 (v28 DS l))) :=
  ⟨⟨⟨⟨hp, h.s⟩, Hs.zero.w (xl_len _ _).symm (Nat.le_refl _)⟩, (hs3 W).w rfl (Nat.le_refl _)⟩, (hs4 W _).s⟩
theorem tag_eq {W M : List Int} {l : List Value} (h : Hs l M) : y12 AB DS kb W l = .tuple #[outV (tgD kb shaN W M), .int .i64 0] := by
  unfold y12 tgD
  rw [h.v, (hs4 W _).v]
def tgN (K M : List Int) : sw.N5 := tgD kb shaN K (xl (kb K) 54 ++ M)
def tgV (K M : List Int) : Value := .tuple #[outV (tgN K M), .int .i64 0]
end
end hd
end Go.Proofs.Ytphiebmgeiekaaa
