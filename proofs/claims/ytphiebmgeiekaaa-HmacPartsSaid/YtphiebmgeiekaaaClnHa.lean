/- Read off the code by the clean reading. -/
import Derived.Test.YtphiebmgeiekaaaClnTc
set_option linter.unusedVariables false
set_option linter.unusedSimpArgs false
set_option linter.deprecated false
set_option maxRecDepth 100000
namespace Go.Proofs.Ytphiebmgeiekaaa
open Go.ChangeShapes Go.WideShapes Go.ChangeAt Go.RowKit Go.Cln
namespace ha
open hc hx hy hz tb tc td
set_option linter.unusedVariables false
noncomputable section
noncomputable def body : Code := loopB Try.prog 21 0
noncomputable def fnV : Value := .func (.func 22) #[] #[.pointer (some ⟨1, 0, none⟩)]
noncomputable def z64 : List Value := List.replicate 64 (.int .u8 0)
noncomputable def H (L X : List Int) (n c : Nat) : Nat → Option Ob := fun i => match i with
  | 0 => some (.cells (.ints .u8 L) 5)
  | 1 => some (.cells (.lit [.slice (some ⟨0, 0, none⟩) n c]) 22)
  | 2 => some (.cells (.lit z64) 37)
  | 3 => some (.cells (.lit z64) 37)
  | 4 => some (.cells (.ints .u8 X) 37)
  | _ => none
noncomputable def E (L X : List Int) (n c : Nat) : St := ⟨[fnV, undef, P0 3 0, P0 4 0, undef, .int .i64 0] ++ U 9, [], Tr.rebuild (H L X n c) 5, 5, 1, [], fun _ => false, True, []⟩
noncomputable def R (L X : List Int) (n c : Nat) (i : Int) : St := ⟨[fnV, undef, P0 3 0, P0 4 0, junk, .int .i64 i] ++ J 8 ++ [undef], [], Tr.rebuild (H L X n c) 5, 5, 1, [], fun _ => false, True, []⟩
noncomputable def ix (i : Int) : Nat := 0 + i.toNat * 1
noncomputable def i1 (i : Int) : Int := IntKind.i64.wrap (i + 1)
noncomputable def pI (X : List Int) (i : Int) (p : Prop) : Prop := (p ∧ (0 ≤ i ∧ i < ((64 : Nat) : Int))) ∧ ix i + 1 ≤ X.length
noncomputable def pY (L X : List Int) (n : Nat) (i : Int) : Prop := pI X i ((((True ∧ decide (i < 64) = true) ∧ decide (i < (n : Int)) = true) ∧ (0 ≤ i ∧ i < (n : Int))) ∧ ix i < L.length)
noncomputable def pN (X : List Int) (n : Nat) (i : Int) : Prop := pI X i ((True ∧ decide (i < 64) = true) ∧ decide (i < (n : Int)) = false)
noncomputable def oY : List (Option Bool) := [some true, some true, some true, some true, some true, some true]
noncomputable def oN : List (Option Bool) := [some true, some false, some true, some true]
theorem kEY (L X : List Int) (n c : Nat) (rd : Option Nat) : ((mk Try.prog Given.nothing 200).code 21 rd body { E L X n c with obl := True, orc := oY }).map (fun r => (r.1, r.2.obl, seenIn r.2 (R L (X.set (ix 0) (L.getD (ix 0) 0)) n c (i1 0)) [])) =
    some (.normal, pY L X n 0, seenAs (R L (X.set (ix 0) (L.getD (ix 0) 0)) n c (i1 0)) [] 5) := by kernel_rfl
theorem kRY (L X : List Int) (n c : Nat) (i : Int) (rd : Option Nat) : ((mk Try.prog Given.nothing 200).code 21 rd body { R L X n c i with obl := True, orc := oY }).map (fun r => (r.1, r.2.obl, seenIn r.2 (R L (X.set (ix i) (L.getD (ix i) 0)) n c (i1 i)) [])) =
    some (.normal, pY L X n i, seenAs (R L (X.set (ix i) (L.getD (ix i) 0)) n c (i1 i)) [] 5) := by kernel_rfl
theorem kRN (L X : List Int) (n c : Nat) (i : Int) (rd : Option Nat) : ((mk Try.prog Given.nothing 200).code 21 rd body { R L X n c i with obl := True, orc := oN }).map (fun r => (r.1, r.2.obl, seenIn r.2 (R L (X.set (ix i) 0) n c (i1 i)) [])) =
    some (.normal, pN X n i, seenAs (R L (X.set (ix i) 0) n c (i1 i)) [] 5) := by kernel_rfl
theorem kX (L X : List Int) (n c : Nat) (i : Int) (rd : Option Nat) : ((mk Try.prog Given.nothing 200).code 21 rd body { R L X n c i with obl := True, orc := [some false] }).map (fun r => (r.1, r.2.obl, seenIn r.2 (R L X n c i) [])) =
    some (.exit 0, True ∧ decide (i < 64) = false, seenAs (R L X n c i) [] 5) := by kernel_rfl
theorem sEY (L X : List Int) (n c : Nat) (X0 : List Int) (rd : Option Nat) (hp : pY L X n 0) : Step Try.prog rd (E L X0 n c) body (E L X n c) (fun e t => e = .normal ∧ t = R L (X.set (ix 0) (L.getD (ix 0) 0)) n c (i1 0)) :=
  Step.std sw.pg (GivenOk.nothing _) (kEY L X n c rd) hp (show 5 ≤ 5 by decide) (g := H L (X.set (ix 0) (L.getD (ix 0) 0)) n c) rfl (by kernel_rfl)
theorem sRY (L X : List Int) (n c : Nat) (i : Int) (X0 : List Int) (rd : Option Nat) (hp : pY L X n i) : Step Try.prog rd (E L X0 n c) body (R L X n c i) (fun e t => e = .normal ∧ t = R L (X.set (ix i) (L.getD (ix i) 0)) n c (i1 i)) :=
  Step.std sw.pg (GivenOk.nothing _) (kRY L X n c i rd) hp (show 5 ≤ 5 by decide) (g := H L (X.set (ix i) (L.getD (ix i) 0)) n c) rfl (by kernel_rfl)
theorem sRN (L X : List Int) (n c : Nat) (i : Int) (X0 : List Int) (rd : Option Nat) (hp : pN X n i) : Step Try.prog rd (E L X0 n c) body (R L X n c i) (fun e t => e = .normal ∧ t = R L (X.set (ix i) 0) n c (i1 i)) :=
  Step.std sw.pg (GivenOk.nothing _) (kRN L X n c i rd) hp (show 5 ≤ 5 by decide) (g := H L (X.set (ix i) 0) n c) rfl (by kernel_rfl)
theorem sX (L X : List Int) (n c : Nat) (i : Int) (X0 : List Int) (rd : Option Nat) (hp : True ∧ decide (i < 64) = false) : Step Try.prog rd (E L X0 n c) body (R L X n c i) (fun e t => e = .exit 0 ∧ t = R L X n c i) :=
  Step.std sw.pg (GivenOk.nothing _) (kX L X n c i rd) hp (show 5 ≤ 5 by decide) (g := H L X n c) rfl (by kernel_rfl)
end
end ha
end Go.Proofs.Ytphiebmgeiekaaa
namespace Go.Proofs.Ytphiebmgeiekaaa
open Go.ChangeShapes Go.WideShapes Go.ChangeAt Go.RowKit Go.Cln
namespace ha
open hc hx hy hz tb tc td
set_option linter.unusedVariables false
noncomputable section
/-- what stands in the block behind so many places -/
noncomputable def XI (L : List Int) (i : Nat) : List Int := L.take i ++ List.replicate (64 - (L.take i).length) 0
theorem XI_len {L : List Int} (h : L.length ≤ 64) (i : Nat) : (XI L i).length = 64 := by
  unfold XI
  rw [List.length_append, List.length_replicate, List.length_take]; omega
theorem XI_yes {L : List Int} {i : Nat} (h : i < L.length) (hl : L.length ≤ 64) : (XI L i).set i (L.getD i 0) = XI L (i + 1) := by
  unfold XI
  have e1 : (L.take i).length = i := by rw [List.length_take]; omega
  have e2 : (L.take (i + 1)).length = i + 1 := by rw [List.length_take]; omega
  rw [e1, e2, List.set_append_right _ _ (by omega), e1, Nat.sub_self]
  obtain ⟨k, hk⟩ : ∃ k, 64 - i = k + 1 := ⟨63 - i, by omega⟩
  rw [hk, List.replicate_succ, List.set_cons_zero, show 64 - (i + 1) = k by omega]
  rw [List.take_add_one, List.append_assoc, List.getD_eq_getElem?_getD, List.getElem?_eq_getElem h]
  rfl
theorem XI_no {L : List Int} {i : Nat} (h : L.length ≤ i) (hi : i < 64) : (XI L i).set i 0 = XI L (i + 1) := by
  unfold XI
  rw [List.take_of_length_le h, List.take_of_length_le (by omega), List.set_append_right _ _ h]
  congr 1
  apply List.ext_getElem?
  intro j
  rw [List.getElem?_set]
  by_cases hj : i - L.length = j
  · subst hj
    rw [if_pos rfl, if_pos (by simp; omega), List.getElem?_replicate, if_pos (by omega)]
  · rw [if_neg hj]
theorem XI_zero (L : List Int) : XI L 0 = List.replicate 64 0 := by unfold XI; simp
theorem XI_end {L : List Int} (h : L.length ≤ 64) : XI L 64 = L ++ List.replicate (64 - L.length) 0 := by unfold XI; rw [List.take_of_length_le h]
theorem ix_eq (i : Nat) : ix (i : Int) = i := by unfold ix; omega
theorem i1_eq {i : Nat} (h : i < 100) : i1 (i : Int) = ((i + 1 : Nat) : Int) := by unfold i1; rw [IntKind.wrap_i64]; omega
theorem pY_of {L : List Int} {i n : Nat} (hn : L.length = n) (h : i < n) (hl : n ≤ 64) : pY L (XI L i) n (i : Int) := by
  have := XI_len (L := L) (by omega) i
  unfold pY pI
  rw [ix_eq, this]
  exact ⟨⟨⟨⟨⟨⟨trivial, by rw [decide_eq_true_eq]; omega⟩, by rw [decide_eq_true_eq]; omega⟩, by omega⟩, by omega⟩, by omega⟩, by omega⟩
theorem pN_of {L : List Int} {i n : Nat} (hn : L.length = n) (h : n ≤ i) (hl : n ≤ 64) (hi : i < 64) : pN (XI L i) n (i : Int) := by
  have := XI_len (L := L) (by omega) i
  unfold pN pI
  rw [ix_eq, this]
  exact ⟨⟨⟨⟨trivial, by rw [decide_eq_true_eq]; omega⟩, by rw [decide_eq_false_iff_not]; omega⟩, by omega⟩, by omega⟩
theorem loopB9 (L : List Int) (n c : Nat) (hn : L.length = n) (h0 : 0 < n) (hl : n ≤ 64) (rd : Option Nat) :
    CodeOk Try.prog rd (.loop body) (E L (List.replicate 64 0) n c) (.exit 0) (R L (XI L 64) n c ((64 : Nat) : Int)) := by
  have e0 : ix 0 = 0 := rfl
  refine CodeOk.of_step (Step.loop (fun f t => (f = 64 ∧ t = E L (List.replicate 64 0) n c) ∨ ∃ i, 1 ≤ i ∧ i ≤ 64 ∧ f = 64 - i ∧ t = R L (XI L i) n c (i : Int)) ?_ 64 _ (.inl ⟨rfl, rfl⟩))
  rintro f t (⟨rfl, rfl⟩ | ⟨i, g1, g2, rfl, rfl⟩)
  · rw [← XI_zero L]
    refine (sEY L (XI L 0) n c (XI L 0) rd (pY_of (i := 0) hn h0 hl)).mono ?_
    rintro e t ⟨rfl, rfl⟩
    refine .inl ⟨rfl, 63, by omega, .inr ⟨1, by omega, by omega, rfl, ?_⟩⟩
    have e1 : i1 0 = ((1 : Nat) : Int) := i1_eq (i := 0) (by omega)
    rw [e0, XI_yes (by omega) (by omega), e1]
  · by_cases h64 : i = 64
    · subst h64
      refine (sX L (XI L 64) n c ((64 : Nat) : Int) _ rd ⟨trivial, by decide⟩).mono ?_
      rintro e t ⟨rfl, rfl⟩
      exact .inr ⟨(by intro x; cases x), rfl, rfl⟩
    · by_cases hi : i < n
      · refine (sRY L (XI L i) n c (i : Int) _ rd (pY_of hn hi hl)).mono ?_
        rintro e t ⟨rfl, rfl⟩
        refine .inl ⟨rfl, 64 - (i + 1), by omega, .inr ⟨i + 1, by omega, by omega, rfl, ?_⟩⟩
        rw [ix_eq, XI_yes (by omega) (by omega), i1_eq (by omega)]
      · refine (sRN L (XI L i) n c (i : Int) _ rd (pN_of hn (by omega) hl (by omega))).mono ?_
        rintro e t ⟨rfl, rfl⟩
        refine .inl ⟨rfl, 64 - (i + 1), by omega, .inr ⟨i + 1, by omega, by omega, rfl, ?_⟩⟩
        rw [ix_eq, XI_no (by omega) (by omega), i1_eq (by omega)]
end
end ha
end Go.Proofs.Ytphiebmgeiekaaa
namespace Go.Proofs.Ytphiebmgeiekaaa
open Go.ChangeShapes Go.WideShapes Go.ChangeAt Go.RowKit Go.Cln
namespace ha
open hc hx hy hz tb tc td
set_option linter.unusedVariables false
noncomputable section
noncomputable def ask20 (S1 : St) (f : FuncId) (c : Code) (S : St) : Option Ask2 := if f == 21 then some ⟨⟨[], [(4, .u8)], [], []⟩, .exit 0, fun _ => S1⟩ else none
noncomputable def r9 (L X : List Int) (n c : Nat) : Option (Value × St) := (mk Try.prog (Given.asking2 Given.nothing Try.prog (ask20 (R L X n c ((64 : Nat) : Int)))) 300).call 13 [.slice (some ⟨0, 0, none⟩) n c] (smSt 1 (hB L) [some false, some false, some true])
noncomputable def bV (X : List Int) : Value := .agg (rowV .u8 64 (ch X)).toArray
noncomputable def o9 (L : List Int) (k : Nat) : List (Option Ob) := some (Ob.cells (.ints .u8 L) 5) :: List.replicate k none
noncomputable def p9 (L X : List Int) (n c : Nat) : Prop := (((True ∧ decide ((n : Int) > 1048576) = false) ∧ decide ((n : Int) > 64) = false) ∧ ∀ rd, CodeOk Try.prog rd (.loop body) (E L (List.replicate 64 0) n c) (.exit 0) (R L X n c ((64 : Nat) : Int))) ∧ 0 + 64 ≤ X.length
theorem run9 (L X : List Int) (n c : Nat) : (r9 L X n c).map (fun r => (r.1, r.2.obl, r.2.next, keepL (true :: List.replicate 4 false) r.2.heap.get 0)) =
    some (.tuple #[bV X, .int .i64 0], p9 L X n c, (o9 L 4).length, o9 L 4) := by kernel_rfl
noncomputable def r9l (D : List Int → sw.N5) (L : List Int) (n c : Nat) : Option (Value × St) := (mk Try.prog (Given.frames Given.nothing (FD D)) 300).call 13 [.slice (some ⟨0, 0, none⟩) n c] (smSt 1 (hB L) [some false, some true])
noncomputable def r9n : Option (Value × St) := (mk Try.prog Given.nothing 300).call 13 [.slice none 0 0] (smSt 0 [] [])
noncomputable def r9z (c : Nat) : Option (Value × St) := (mk Try.prog Given.nothing 300).call 13 [.slice (some ⟨0, 0, none⟩) 0 c] (smSt 1 [none] [])
end
end ha
end Go.Proofs.Ytphiebmgeiekaaa
namespace Go.Proofs.Ytphiebmgeiekaaa
open Go.ChangeShapes Go.WideShapes Go.ChangeAt Go.RowKit Go.Cln
namespace ha
open hc hx hy hz tb tc td
set_option linter.unusedVariables false
noncomputable section
namespace rr
noncomputable def body : Code := loopB Try.prog 19 0
noncomputable def H (L X : List Int) : Nat → Option Ob := fun i => match i with
  | 0 => some (.cells (.ints .u8 L) 5)
  | 1 => some (.cells (.lit z64) 37)
  | 2 => some (.cells (.ints .u8 X) 37)
  | _ => none
noncomputable def hd (n c : Nat) (i : Int) : List Value := [.slice (some ⟨0, 0, none⟩) n c, undef, P0 1 0, P0 2 0, undef, .int .i64 i] ++ J 3
noncomputable def E (L X : List Int) (n c : Nat) : St := ⟨hd n c 0 ++ U 16, [], Tr.rebuild (H L X) 3, 3, 1, [], fun _ => false, True, []⟩
noncomputable def R (L X : List Int) (n c : Nat) (i : Int) : St := ⟨hd n c i ++ (U 3 ++ (J 12 ++ [undef])), [], Tr.rebuild (H L X) 3, 3, 1, [], fun _ => false, True, []⟩
noncomputable def pY (L X : List Int) (n : Nat) (i : Int) : Prop := pI X i (((True ∧ decide (i < (n : Int)) = true) ∧ (0 ≤ i ∧ i < (n : Int))) ∧ ix i < L.length)
noncomputable def oY : List (Option Bool) := [some true, some true, some true, some true, some true]
theorem kEY (L X : List Int) (n c : Nat) (rd : Option Nat) : ((mk Try.prog Given.nothing 200).code 19 rd body { E L X n c with obl := True, orc := oY }).map (fun r => (r.1, r.2.obl, seenIn r.2 (R L (X.set (ix 0) (L.getD (ix 0) 0)) n c (i1 0)) [])) =
    some (.normal, pY L X n 0, seenAs (R L (X.set (ix 0) (L.getD (ix 0) 0)) n c (i1 0)) [] 3) := by kernel_rfl
theorem kRY (L X : List Int) (n c : Nat) (i : Int) (rd : Option Nat) : ((mk Try.prog Given.nothing 200).code 19 rd body { R L X n c i with obl := True, orc := oY }).map (fun r => (r.1, r.2.obl, seenIn r.2 (R L (X.set (ix i) (L.getD (ix i) 0)) n c (i1 i)) [])) =
    some (.normal, pY L X n i, seenAs (R L (X.set (ix i) (L.getD (ix i) 0)) n c (i1 i)) [] 3) := by kernel_rfl
theorem kX (L X : List Int) (n c : Nat) (i : Int) (rd : Option Nat) : ((mk Try.prog Given.nothing 200).code 19 rd body { R L X n c i with obl := True, orc := [some false] }).map (fun r => (r.1, r.2.obl, seenIn r.2 (R L X n c i) [])) =
    some (.exit 0, True ∧ decide (i < (n : Int)) = false, seenAs (R L X n c i) [] 3) := by kernel_rfl
theorem sEY (L X : List Int) (n c : Nat) (rd : Option Nat) (hp : pY L X n 0) : Step Try.prog rd (E L X n c) body (E L X n c) (fun e t => e = .normal ∧ t = R L (X.set (ix 0) (L.getD (ix 0) 0)) n c (i1 0)) :=
  Step.std sw.pg (GivenOk.nothing _) (kEY L X n c rd) hp (show 3 ≤ 3 by decide) (g := H L (X.set (ix 0) (L.getD (ix 0) 0))) rfl (by kernel_rfl)
theorem sRY (L X : List Int) (n c : Nat) (i : Int) (X0 : List Int) (rd : Option Nat) (hp : pY L X n i) : Step Try.prog rd (E L X0 n c) body (R L X n c i) (fun e t => e = .normal ∧ t = R L (X.set (ix i) (L.getD (ix i) 0)) n c (i1 i)) :=
  Step.std sw.pg (GivenOk.nothing _) (kRY L X n c i rd) hp (show 3 ≤ 3 by decide) (g := H L (X.set (ix i) (L.getD (ix i) 0))) rfl (by kernel_rfl)
theorem sX (L X : List Int) (n c : Nat) (i : Int) (X0 : List Int) (rd : Option Nat) (hp : True ∧ decide (i < (n : Int)) = false) : Step Try.prog rd (E L X0 n c) body (R L X n c i) (fun e t => e = .exit 0 ∧ t = R L X n c i) :=
  Step.std sw.pg (GivenOk.nothing _) (kX L X n c i rd) hp (show 3 ≤ 3 by decide) (g := H L X) rfl (by kernel_rfl)
theorem pY_of {L : List Int} {i n : Nat} (hn : L.length = n) (h : i < n) (hl : n ≤ 64) : pY L (XI L i) n (i : Int) := by
  have := XI_len (L := L) (by omega) i
  unfold pY pI
  rw [ix_eq, this]
  exact ⟨⟨⟨⟨⟨trivial, by rw [decide_eq_true_eq]; omega⟩, by omega⟩, by omega⟩, by omega⟩, by omega⟩
theorem loopB11 (L : List Int) (n c : Nat) (hn : L.length = n) (h0 : 0 < n) (hl : n ≤ 64) (rd : Option Nat) :
    CodeOk Try.prog rd (.loop body) (E L (List.replicate 64 0) n c) (.exit 0) (R L (XI L n) n c ((n : Nat) : Int)) := by
  have e0 : ix 0 = 0 := rfl
  refine CodeOk.of_step (Step.loop (fun f t => (f = n ∧ t = E L (List.replicate 64 0) n c) ∨ ∃ i, 1 ≤ i ∧ i ≤ n ∧ f = n - i ∧ t = R L (XI L i) n c (i : Int)) ?_ n _ (.inl ⟨rfl, rfl⟩))
  rintro f t (⟨rfl, rfl⟩ | ⟨i, g1, g2, rfl, rfl⟩)
  · rw [← XI_zero L]
    refine (sEY L (XI L 0) f c rd (pY_of (i := 0) hn h0 hl)).mono ?_
    rintro e t ⟨rfl, rfl⟩
    refine .inl ⟨rfl, f - 1, by omega, .inr ⟨1, by omega, by omega, rfl, ?_⟩⟩
    have e1 : i1 0 = ((1 : Nat) : Int) := i1_eq (i := 0) (by omega)
    rw [e0, XI_yes (by omega) (by omega), e1]
  · by_cases hi : i = n
    · subst hi
      refine (sX L (XI L i) i c ((i : Nat) : Int) _ rd ⟨trivial, by rw [decide_eq_false_iff_not]; omega⟩).mono ?_
      rintro e t ⟨rfl, rfl⟩
      exact .inr ⟨(by intro x; cases x), rfl, rfl⟩
    · refine (sRY L (XI L i) n c (i : Int) _ rd (pY_of hn (by omega) hl)).mono ?_
      rintro e t ⟨rfl, rfl⟩
      refine .inl ⟨rfl, n - (i + 1), by omega, .inr ⟨i + 1, by omega, by omega, rfl, ?_⟩⟩
      rw [ix_eq, XI_yes (by omega) (by omega), i1_eq (by omega)]
noncomputable def ask11 (S1 : St) (f : FuncId) (c : Code) (S : St) : Option Ask2 := if f == 19 then some ⟨⟨[6, 7, 8], [(2, .u8)], [], []⟩, .exit 0, fun _ => S1⟩ else none
noncomputable def r11 (L X : List Int) (n c : Nat) : Option (Value × St) := (mk Try.prog (Given.asking2 Given.nothing Try.prog (ask11 (R L X n c ((n : Nat) : Int)))) 300).call 19 [.slice (some ⟨0, 0, none⟩) n c] (smSt 1 (hB L) [some false, some true])
noncomputable def p11 (L X : List Int) (n c : Nat) : Prop := ((True ∧ decide ((n : Int) > 64) = false) ∧ ∀ rd, CodeOk Try.prog rd (.loop body) (E L (List.replicate 64 0) n c) (.exit 0) (R L X n c ((n : Nat) : Int))) ∧ 0 + 64 ≤ X.length
theorem run11 (L X : List Int) (n c : Nat) : (r11 L X n c).map (fun r => (r.1, r.2.obl, r.2.next, keepL (true :: List.replicate 2 false) r.2.heap.get 0)) =
    some (bV X, p11 L X n c, (o9 L 2).length, o9 L 2) := by kernel_rfl
noncomputable def r11l (D : List Int → sw.N5) (L : List Int) (n c : Nat) : Option (Value × St) := (mk Try.prog (Given.frames Given.nothing (FD D)) 300).call 19 [.slice (some ⟨0, 0, none⟩) n c] (smSt 1 (hB L) [some true])
noncomputable def r11n : Option (Value × St) := (mk Try.prog Given.nothing 300).call 19 [.slice none 0 0] (smSt 0 [] [])
noncomputable def r11z (c : Nat) : Option (Value × St) := (mk Try.prog Given.nothing 300).call 19 [.slice (some ⟨0, 0, none⟩) 0 c] (smSt 1 [none] [])
end rr
end
end ha
end Go.Proofs.Ytphiebmgeiekaaa
namespace Go.Proofs.Ytphiebmgeiekaaa
open Go.ChangeShapes Go.WideShapes Go.ChangeAt Go.RowKit Go.Cln
namespace ha
open hc hx hy hz tb tc td
set_option linter.unusedVariables false
noncomputable section
/-- a key's block -/
noncomputable def kb (L : List Int) : List Int := if L.length ≤ 64 then L ++ List.replicate (64 - L.length) 0 else ot1 (shaN L) ++ List.replicate 44 0
noncomputable def wn (L : List Int) (n : Nat) : List Int := (L.drop 0).take n
noncomputable def big (D : List Int → sw.N5) (W : List Int) : List Int := ot1 (D W) ++ List.replicate 44 0
noncomputable def p9l (D : List Int → sw.N5) (L : List Int) (n c : Nat) : Prop := ((True ∧ decide ((n : Int) > 1048576) = false) ∧ decide ((n : Int) > 64) = true) ∧ (D = shaN ∧ Byt (wn L n) ∧ n = (wn L n).length ∧ n ≤ c ∧ n ≤ 1000000000)
theorem run9la (D : List Int → sw.N5) (L : List Int) (n c : Nat) : (r9l D L n c).map (fun r => (r.1, r.2.obl, r.2.next, keepL (true :: List.replicate 33 false) r.2.heap.get 0)) =
    some (.tuple #[bV (big D (wn L n)), .int .i64 0], p9l D L n c, (o9 L 33).length, o9 L 33) := by kernel_rfl
noncomputable def Z64 : List Int := List.replicate 64 0
noncomputable def nn (k : Nat) : List (Option Ob) := List.replicate k none
theorem run9n : r9n.map (fun r => (r.1, r.2.obl, r.2.next, keepL (List.replicate 4 false) r.2.heap.get 0)) = some (.tuple #[bV Z64, .int .i64 0], True, (nn 4).length, nn 4) := by kernel_rfl
theorem run9z (c : Nat) : (r9z c).map (fun r => (r.1, r.2.obl, r.2.next, keepL (List.replicate 5 false) r.2.heap.get 0)) = some (.tuple #[bV Z64, .int .i64 0], True, (nn 5).length, nn 5) := by kernel_rfl
namespace rr
noncomputable def p11l (D : List Int → sw.N5) (L : List Int) (n c : Nat) : Prop := (True ∧ decide ((n : Int) > 64) = true) ∧ (D = shaN ∧ n = (wn L n).length ∧ 0 < n ∧ n ≤ 1000000000)
theorem run11l (D : List Int → sw.N5) (L : List Int) (n c : Nat) : (r11l D L n c).map (fun r => (r.1, r.2.obl, r.2.next, keepL (true :: List.replicate 28 false) r.2.heap.get 0)) =
    some (bV (big D (wn L n)), p11l D L n c, (o9 L 28).length, o9 L 28) := by kernel_rfl
theorem run11n : r11n.map (fun r => (r.1, r.2.obl, r.2.next, keepL (List.replicate 2 false) r.2.heap.get 0)) = some (bV Z64, True, (nn 2).length, nn 2) := by kernel_rfl
theorem run11z (c : Nat) : (r11z c).map (fun r => (r.1, r.2.obl, r.2.next, keepL (List.replicate 3 false) r.2.heap.get 0)) = some (bV Z64, True, (nn 3).length, nn 3) := by kernel_rfl
end rr
theorem kb_nil : kb [] = Z64 := rfl
theorem wn_eq {L : List Int} {n : Nat} (hn : n = L.length) : wn L n = L := by unfold wn; rw [List.drop_zero, hn, List.take_length]
/-- Block of a key, both -/
theorem block9 (L : List Int) (n c : Nat) (hL : Byt L) (hn : n = L.length) (h0 : 0 < n) (hc : n ≤ c) (h : n ≤ 1048576) :
    CallOk Try.prog 13 [.slice (some ⟨0, 0, none⟩) n c] (smSt 1 (hB L) []) (.tuple #[bV (kb L), .int .i64 0]) (smSt 1 (o9 L 33) []) := by
  by_cases h64 : n ≤ 64
  · have e : XI L 64 = kb L := by unfold kb; rw [if_pos (by omega), XI_end (by omega)]
    have := frame_by sw.pg ((GivenOk.nothing _).asking2 _) _ (run9 L (XI L 64) n c) ⟨⟨⟨⟨trivial, by rw [decide_eq_false_iff_not]; omega⟩, by rw [decide_eq_false_iff_not]; omega⟩, fun rd => loopB9 L n c hn.symm h0 h64 rd⟩, by rw [XI_len (by omega)]; omega⟩ (by rfl) rfl
    rw [e] at this
    exact this.pad 29 (by simp [o9]) (by simp [hB]) (by simp [hB, o9])
  · have e : big shaN (wn L n) = kb L := by unfold kb big; rw [if_neg (by omega), wn_eq hn]
    have hp : p9l shaN L n c := by
      refine ⟨⟨⟨trivial, by rw [decide_eq_false_iff_not]; omega⟩, by rw [decide_eq_true_eq]; omega⟩, rfl, ?_, ?_, hc, by omega⟩
      · rw [wn_eq hn]; exact hL
      · rw [wn_eq hn]; exact hn
    have := frame_by sw.pg ((GivenOk.nothing _).frames (FD_ok shaN)) _ (run9la shaN L n c) hp (by rfl) rfl
    rw [e] at this; exact this
theorem block11 (L : List Int) (n c : Nat) (hn : n = L.length) (h0 : 0 < n) (h : n ≤ 1048576) :
    CallOk Try.prog 19 [.slice (some ⟨0, 0, none⟩) n c] (smSt 1 (hB L) []) (bV (kb L)) (smSt 1 (o9 L 28) []) := by
  by_cases h64 : n ≤ 64
  · have e : XI L n = kb L := by
      unfold kb XI
      rw [if_pos (by omega), hn, List.take_length]
    have := frame_by sw.pg ((GivenOk.nothing _).asking2 _) _ (rr.run11 L (XI L n) n c) ⟨⟨⟨trivial, by rw [decide_eq_false_iff_not]; omega⟩, fun rd => rr.loopB11 L n c hn.symm h0 h64 rd⟩, by rw [XI_len (by omega)]; omega⟩ (by rfl) rfl
    rw [e] at this
    exact this.pad 26 (by simp [o9]) (by simp [hB]) (by simp [hB, o9])
  · have e : big shaN (wn L n) = kb L := by unfold kb big; rw [if_neg (by omega), wn_eq hn]
    have hp : rr.p11l shaN L n c := ⟨⟨trivial, by rw [decide_eq_true_eq]; omega⟩, rfl, by rw [wn_eq hn]; exact hn, h0, by omega⟩
    have := frame_by sw.pg ((GivenOk.nothing _).frames (FD_ok shaN)) _ (rr.run11l shaN L n c) hp (by rfl) rfl
    rw [e] at this; exact this
/-- a Block's run of no bytes, by place -/
theorem run9a (F : Nat → Nat → Cells) (b o c : Nat) : ((mk Try.prog Given.nothing 300).call 13 [.slice (some ⟨b, o, some 1000⟩) 0 c] (smSt 1 [some (.fam F)] [])).map (fun r => (r.1, r.2.obl, r.2.next, keepL (true :: List.replicate 4 false) r.2.heap.get 0)) =
    some (.tuple #[bV Z64, .int .i64 0], True, (some (Ob.fam F) :: nn 4).length, some (Ob.fam F) :: nn 4) := by kernel_rfl
theorem run11a (F : Nat → Nat → Cells) (b o c : Nat) : ((mk Try.prog Given.nothing 300).call 19 [.slice (some ⟨b, o, some 1000⟩) 0 c] (smSt 1 [some (.fam F)] [])).map (fun r => (r.1, r.2.obl, r.2.next, keepL (true :: List.replicate 2 false) r.2.heap.get 0)) =
    some (bV Z64, True, (some (Ob.fam F) :: nn 2).length, some (Ob.fam F) :: nn 2) := by kernel_rfl
end
end ha
end Go.Proofs.Ytphiebmgeiekaaa
