/- Read off the code by the clean reading. -/
import Derived.Test.YtmgnpfapigenpabClnFd
set_option linter.unusedVariables false
set_option linter.unusedSimpArgs false
set_option linter.deprecated false
set_option maxRecDepth 100000
namespace Go.Proofs.Ytmgnpfapigenpab
open Go.ChangeShapes Go.WideShapes Go.ChangeAt Go.RowKit Go.Cln
namespace fc
open fr
set_option linter.unusedVariables false
noncomputable section
noncomputable def lbody : Code := loopB Try.prog 4 0
noncomputable def ix (i : Int) : Nat := 0 + i.toNat * 1
noncomputable def i1 (i : Int) : Int := IntKind.i64.wrap (i + 1)
noncomputable def pL (M : List Int) (n : Nat) (i : Int) : Prop := ((((True ∧ decide (i < ((0 + n : Nat) : Int)) = true) ∧ (0 ≤ i ∧ i < ((0 + n : Nat) : Int))) ∧ ix i < M.length) ∧ (0 ≤ i ∧ i < ((0 + n : Nat) : Int))) ∧ ix i + 1 ≤ M.length
noncomputable def oL : List (Option Bool) := [some true, some true, some true, some true, some true]
theorem ix_eq (i : Nat) : ix (i : Int) = i := by unfold ix; omega
theorem i1_eq {j : Nat} (h : j < 100000) : i1 (j : Int) = ((j + 1 : Nat) : Int) := by unfold i1; rw [IntKind.wrap_i64]; omega
theorem pL_of {M : List Int} {n j : Nat} (hM : M.length = n) (h : j < n) : pL M n (j : Int) := by
  unfold pL
  rw [ix_eq]
  exact ⟨⟨⟨⟨⟨trivial, by rw [decide_eq_true_eq]; omega⟩, by omega⟩, by omega⟩, by omega⟩, by omega⟩
namespace ke
noncomputable def H (L M : List Int) (n c : Nat) (k z e : Int) (ok : Bool) : Nat → Option Ob := fun i => match i with
  | 0 => some (.cells (.ints .u8 L) 5)
  | 2 => some (.cells (.ints .u8 M) 5)
  | _ => none
noncomputable def HZ (L : List Int) (n c : Nat) (k z e : Int) (ok : Bool) : Nat → Option Ob := fun i => match i with
  | 0 => some (.cells (.ints .u8 L) 5)
  | _ => none
noncomputable def E (L M : List Int) (n c : Nat) (k z e : Int) (ok : Bool) : St := ⟨[.slice (some ⟨0, 0, none⟩) n c, undef, .bool false, .slice (some ⟨2, 0, some 1⟩) (0 + n) (0 + n), .int .i64 k, .slice none 0 0, .int .i64 z, .int .i64 e, .bool ok, .int .i64 0] ++ U 4 ++ J 3 ++ [undef] ++ J 3 ++ [.tuple #[.int .i64 k, .slice none 0 0, .int .i64 z, .int .i64 e]] ++ J 1 ++ [.tuple #[.int .i64 k, .slice none 0 0, .int .i64 z, .int .i64 e]] ++ J 9 ++ U 48, [], Tr.rebuild (H L M n c k z e ok) 7, 7, 1, [], fun _ => false, True, []⟩
noncomputable def R (L M : List Int) (n c : Nat) (k z e : Int) (ok : Bool) (i : Int) : St := ⟨[.slice (some ⟨0, 0, none⟩) n c, undef, .bool false, .slice (some ⟨2, 0, some 1⟩) (0 + n) (0 + n), .int .i64 k, .slice none 0 0, .int .i64 z, .int .i64 e, .bool ok, .int .i64 i] ++ U 4 ++ J 3 ++ [undef] ++ J 3 ++ [.tuple #[.int .i64 k, .slice none 0 0, .int .i64 z, .int .i64 e]] ++ J 1 ++ [.tuple #[.int .i64 k, .slice none 0 0, .int .i64 z, .int .i64 e]] ++ J 9 ++ (J 14 ++ U 34), [], Tr.rebuild (H L M n c k z e ok) 7, 7, 1, [], fun _ => false, True, []⟩
noncomputable def Z (L : List Int) (n c : Nat) (k z e : Int) (ok : Bool) (i : Int) : St := ⟨[.slice (some ⟨0, 0, none⟩) n c, undef, .bool false, .slice (some ⟨2, 0, some 1⟩) (0 + n) (0 + n), .int .i64 k, .slice none 0 0, .int .i64 z, .int .i64 e, .bool ok, .int .i64 i] ++ U 4 ++ J 3 ++ [undef] ++ J 3 ++ [.tuple #[.int .i64 k, .slice none 0 0, .int .i64 z, .int .i64 e]] ++ J 1 ++ [.tuple #[.int .i64 k, .slice none 0 0, .int .i64 z, .int .i64 e]] ++ J 9 ++ (J 14 ++ U 34), [], Tr.rebuild (HZ L n c k z e ok) 7, 7, 1, [], fun _ => false, True, []⟩
theorem kE (L M : List Int) (n c : Nat) (k z e : Int) (ok : Bool) (rd : Option Nat) : ((mk Try.prog Given.nothing 200).code 4 rd lbody { E L M n c k z e ok with obl := True, orc := oL }).map (fun r => (r.1, r.2.obl, seenIn r.2 (R L (M.set (ix 0) (IntKind.u8.wrap (M.getD (ix 0) 0 + 1))) n c k z e ok (i1 0)) [])) = some (.normal, pL M n 0, seenAs (R L (M.set (ix 0) (IntKind.u8.wrap (M.getD (ix 0) 0 + 1))) n c k z e ok (i1 0)) [] 7) := by kernel_rfl
theorem kR (L M : List Int) (n c : Nat) (k z e : Int) (ok : Bool) (i : Int) (rd : Option Nat) : ((mk Try.prog Given.nothing 200).code 4 rd lbody { R L M n c k z e ok i with obl := True, orc := oL }).map (fun r => (r.1, r.2.obl, seenIn r.2 (R L (M.set (ix i) (IntKind.u8.wrap (M.getD (ix i) 0 + 1))) n c k z e ok (i1 i)) [])) = some (.normal, pL M n i, seenAs (R L (M.set (ix i) (IntKind.u8.wrap (M.getD (ix i) 0 + 1))) n c k z e ok (i1 i)) [] 7) := by kernel_rfl
theorem kX (L M : List Int) (n c : Nat) (k z e : Int) (ok : Bool) (i : Int) (rd : Option Nat) : ((mk Try.prog Given.nothing 200).code 4 rd lbody { R L M n c k z e ok i with obl := True, orc := [some false] }).map (fun r => (r.1, r.2.obl, seenIn r.2 (Z L n c k z e ok i) [])) = some (.exit 0, True ∧ decide (i < ((0 + n : Nat) : Int)) = false, seenAs (Z L n c k z e ok i) [] 7) := by kernel_rfl
theorem sE (L M : List Int) (n c : Nat) (k z e : Int) (ok : Bool) (rd : Option Nat) (hp : pL M n 0) : Step Try.prog rd (E L M n c k z e ok) lbody (E L M n c k z e ok) (fun e' t => e' = .normal ∧ t = R L (M.set (ix 0) (IntKind.u8.wrap (M.getD (ix 0) 0 + 1))) n c k z e ok (i1 0)) :=
  Step.std pg (GivenOk.nothing _) (kE L M n c k z e ok rd) hp (show 7 ≤ 7 by decide) (g := H L (M.set (ix 0) (IntKind.u8.wrap (M.getD (ix 0) 0 + 1))) n c k z e ok) rfl (by kernel_rfl)
theorem sR (L M : List Int) (n c : Nat) (k z e : Int) (ok : Bool) (i : Int) (M0 : List Int) (rd : Option Nat) (hp : pL M n i) : Step Try.prog rd (E L M0 n c k z e ok) lbody (R L M n c k z e ok i) (fun e' t => e' = .normal ∧ t = R L (M.set (ix i) (IntKind.u8.wrap (M.getD (ix i) 0 + 1))) n c k z e ok (i1 i)) :=
  Step.std pg (GivenOk.nothing _) (kR L M n c k z e ok i rd) hp (show 7 ≤ 7 by decide) (g := H L (M.set (ix i) (IntKind.u8.wrap (M.getD (ix i) 0 + 1))) n c k z e ok) rfl (by kernel_rfl)
theorem sX (L M : List Int) (n c : Nat) (k z e : Int) (ok : Bool) (i : Int) (M0 : List Int) (rd : Option Nat) (hp : True ∧ decide (i < ((0 + n : Nat) : Int)) = false) : Step Try.prog rd (E L M0 n c k z e ok) lbody (R L M n c k z e ok i) (fun e' t => e' = .exit 0 ∧ t = Z L n c k z e ok i) :=
  Step.std pg (GivenOk.nothing _) (kX L M n c k z e ok i rd) hp (show 7 ≤ 7 by decide) (g := HZ L n c k z e ok) rfl (by kernel_rfl)
theorem loop (L M : List Int) (n c : Nat) (k z e : Int) (ok : Bool) (hM : M.length = n) (h0 : 0 < n) (hm : n ≤ 2000) (rd : Option Nat) : CodeOk Try.prog rd (.loop lbody) (E L M n c k z e ok) (.exit 0) (Z L n c k z e ok ((n : Nat) : Int)) := by
  refine CodeOk.of_step (Step.loop (fun f t => (f = n ∧ t = E L M n c k z e ok) ∨ ∃ (j : Nat) (M' : List Int), 1 ≤ j ∧ j ≤ n ∧ f = n - j ∧ M'.length = n ∧ t = R L M' n c k z e ok (j : Int)) ?_ n _ (.inl ⟨rfl, rfl⟩))
  rintro f t (⟨rfl, rfl⟩ | ⟨j, M', g1, g2, rfl, g3, rfl⟩)
  · refine (sE L M f c k z e ok rd (pL_of (j := 0) hM h0)).mono ?_
    rintro e' t ⟨rfl, rfl⟩
    exact .inl ⟨rfl, f - 1, by omega, .inr ⟨1, M.set (ix 0) (IntKind.u8.wrap (M.getD (ix 0) 0 + 1)), by omega, by omega, rfl, by rw [List.length_set]; exact hM, by rw [show i1 0 = ((1 : Nat) : Int) from i1_eq (j := 0) (by omega)]⟩⟩
  · by_cases hj : j = n
    · subst hj
      refine (sX L M' j c k z e ok (j : Int) M rd ⟨trivial, by rw [decide_eq_false_iff_not]; omega⟩).mono ?_
      rintro e' t ⟨rfl, rfl⟩
      exact .inr ⟨(by intro x; cases x), rfl, rfl⟩
    · refine (sR L M' n c k z e ok (j : Int) M rd (pL_of g3 (by omega))).mono ?_
      rintro e' t ⟨rfl, rfl⟩
      exact .inl ⟨rfl, n - (j + 1), by omega, .inr ⟨j + 1, M'.set (ix (j : Int)) (IntKind.u8.wrap (M'.getD (ix (j : Int)) 0 + 1)), by omega, by omega, rfl, by rw [List.length_set]; exact g3, by rw [i1_eq (by omega)]⟩⟩
end ke
namespace ko
noncomputable def H (L M : List Int) (n c : Nat) (k z e : Int) (ok : Bool) (B : Nat) (BL : List Int) : Nat → Option Ob := fun i => match i with
  | 0 => some (.cells (.ints .u8 L) 5)
  | 2 => some (.cells (.ints .u8 M) 5)
  | 8 => some (.cells (.ints .u8 BL) 5)
  | _ => none
noncomputable def HZ (L : List Int) (n c : Nat) (k z e : Int) (ok : Bool) (B : Nat) (BL : List Int) : Nat → Option Ob := fun i => match i with
  | 0 => some (.cells (.ints .u8 L) 5)
  | 8 => some (.cells (.ints .u8 BL) 5)
  | _ => none
noncomputable def E (L M : List Int) (n c : Nat) (k z e : Int) (ok : Bool) (B : Nat) (BL : List Int) : St := ⟨[.slice (some ⟨0, 0, none⟩) n c, undef, .bool false, .slice (some ⟨2, 0, some 1⟩) (0 + n) (0 + n), .int .i64 k, .slice (some ⟨8, 0, some 1⟩) B B, .int .i64 z, .int .i64 e, .bool ok, .int .i64 0] ++ U 4 ++ J 3 ++ [undef] ++ J 3 ++ [.tuple #[.int .i64 k, .slice (some ⟨8, 0, some 1⟩) B B, .int .i64 z, .int .i64 e]] ++ J 1 ++ [.tuple #[.int .i64 k, .slice (some ⟨8, 0, some 1⟩) B B, .int .i64 z, .int .i64 e]] ++ J 9 ++ U 48, [], Tr.rebuild (H L M n c k z e ok B BL) 9, 9, 1, [], fun _ => false, True, []⟩
noncomputable def R (L M : List Int) (n c : Nat) (k z e : Int) (ok : Bool) (B : Nat) (BL : List Int) (i : Int) : St := ⟨[.slice (some ⟨0, 0, none⟩) n c, undef, .bool false, .slice (some ⟨2, 0, some 1⟩) (0 + n) (0 + n), .int .i64 k, .slice (some ⟨8, 0, some 1⟩) B B, .int .i64 z, .int .i64 e, .bool ok, .int .i64 i] ++ U 4 ++ J 3 ++ [undef] ++ J 3 ++ [.tuple #[.int .i64 k, .slice (some ⟨8, 0, some 1⟩) B B, .int .i64 z, .int .i64 e]] ++ J 1 ++ [.tuple #[.int .i64 k, .slice (some ⟨8, 0, some 1⟩) B B, .int .i64 z, .int .i64 e]] ++ J 9 ++ (J 14 ++ U 34), [], Tr.rebuild (H L M n c k z e ok B BL) 9, 9, 1, [], fun _ => false, True, []⟩
noncomputable def Z (L : List Int) (n c : Nat) (k z e : Int) (ok : Bool) (B : Nat) (BL : List Int) (i : Int) : St := ⟨[.slice (some ⟨0, 0, none⟩) n c, undef, .bool false, .slice (some ⟨2, 0, some 1⟩) (0 + n) (0 + n), .int .i64 k, .slice (some ⟨8, 0, some 1⟩) B B, .int .i64 z, .int .i64 e, .bool ok, .int .i64 i] ++ U 4 ++ J 3 ++ [undef] ++ J 3 ++ [.tuple #[.int .i64 k, .slice (some ⟨8, 0, some 1⟩) B B, .int .i64 z, .int .i64 e]] ++ J 1 ++ [.tuple #[.int .i64 k, .slice (some ⟨8, 0, some 1⟩) B B, .int .i64 z, .int .i64 e]] ++ J 9 ++ (J 14 ++ U 34), [], Tr.rebuild (HZ L n c k z e ok B BL) 9, 9, 1, [], fun _ => false, True, []⟩
theorem kE (L M : List Int) (n c : Nat) (k z e : Int) (ok : Bool) (B : Nat) (BL : List Int) (rd : Option Nat) : ((mk Try.prog Given.nothing 200).code 4 rd lbody { E L M n c k z e ok B BL with obl := True, orc := oL }).map (fun r => (r.1, r.2.obl, seenIn r.2 (R L (M.set (ix 0) (IntKind.u8.wrap (M.getD (ix 0) 0 + 1))) n c k z e ok B BL (i1 0)) [])) = some (.normal, pL M n 0, seenAs (R L (M.set (ix 0) (IntKind.u8.wrap (M.getD (ix 0) 0 + 1))) n c k z e ok B BL (i1 0)) [] 9) := by kernel_rfl
theorem kR (L M : List Int) (n c : Nat) (k z e : Int) (ok : Bool) (B : Nat) (BL : List Int) (i : Int) (rd : Option Nat) : ((mk Try.prog Given.nothing 200).code 4 rd lbody { R L M n c k z e ok B BL i with obl := True, orc := oL }).map (fun r => (r.1, r.2.obl, seenIn r.2 (R L (M.set (ix i) (IntKind.u8.wrap (M.getD (ix i) 0 + 1))) n c k z e ok B BL (i1 i)) [])) = some (.normal, pL M n i, seenAs (R L (M.set (ix i) (IntKind.u8.wrap (M.getD (ix i) 0 + 1))) n c k z e ok B BL (i1 i)) [] 9) := by kernel_rfl
theorem kX (L M : List Int) (n c : Nat) (k z e : Int) (ok : Bool) (B : Nat) (BL : List Int) (i : Int) (rd : Option Nat) : ((mk Try.prog Given.nothing 200).code 4 rd lbody { R L M n c k z e ok B BL i with obl := True, orc := [some false] }).map (fun r => (r.1, r.2.obl, seenIn r.2 (Z L n c k z e ok B BL i) [])) = some (.exit 0, True ∧ decide (i < ((0 + n : Nat) : Int)) = false, seenAs (Z L n c k z e ok B BL i) [] 9) := by kernel_rfl
theorem sE (L M : List Int) (n c : Nat) (k z e : Int) (ok : Bool) (B : Nat) (BL : List Int) (rd : Option Nat) (hp : pL M n 0) : Step Try.prog rd (E L M n c k z e ok B BL) lbody (E L M n c k z e ok B BL) (fun e' t => e' = .normal ∧ t = R L (M.set (ix 0) (IntKind.u8.wrap (M.getD (ix 0) 0 + 1))) n c k z e ok B BL (i1 0)) :=
  Step.std pg (GivenOk.nothing _) (kE L M n c k z e ok B BL rd) hp (show 9 ≤ 9 by decide) (g := H L (M.set (ix 0) (IntKind.u8.wrap (M.getD (ix 0) 0 + 1))) n c k z e ok B BL) rfl (by kernel_rfl)
theorem sR (L M : List Int) (n c : Nat) (k z e : Int) (ok : Bool) (B : Nat) (BL : List Int) (i : Int) (M0 : List Int) (rd : Option Nat) (hp : pL M n i) : Step Try.prog rd (E L M0 n c k z e ok B BL) lbody (R L M n c k z e ok B BL i) (fun e' t => e' = .normal ∧ t = R L (M.set (ix i) (IntKind.u8.wrap (M.getD (ix i) 0 + 1))) n c k z e ok B BL (i1 i)) :=
  Step.std pg (GivenOk.nothing _) (kR L M n c k z e ok B BL i rd) hp (show 9 ≤ 9 by decide) (g := H L (M.set (ix i) (IntKind.u8.wrap (M.getD (ix i) 0 + 1))) n c k z e ok B BL) rfl (by kernel_rfl)
theorem sX (L M : List Int) (n c : Nat) (k z e : Int) (ok : Bool) (B : Nat) (BL : List Int) (i : Int) (M0 : List Int) (rd : Option Nat) (hp : True ∧ decide (i < ((0 + n : Nat) : Int)) = false) : Step Try.prog rd (E L M0 n c k z e ok B BL) lbody (R L M n c k z e ok B BL i) (fun e' t => e' = .exit 0 ∧ t = Z L n c k z e ok B BL i) :=
  Step.std pg (GivenOk.nothing _) (kX L M n c k z e ok B BL i rd) hp (show 9 ≤ 9 by decide) (g := HZ L n c k z e ok B BL) rfl (by kernel_rfl)
theorem loop (L M : List Int) (n c : Nat) (k z e : Int) (ok : Bool) (B : Nat) (BL : List Int) (hM : M.length = n) (h0 : 0 < n) (hm : n ≤ 2000) (rd : Option Nat) : CodeOk Try.prog rd (.loop lbody) (E L M n c k z e ok B BL) (.exit 0) (Z L n c k z e ok B BL ((n : Nat) : Int)) := by
  refine CodeOk.of_step (Step.loop (fun f t => (f = n ∧ t = E L M n c k z e ok B BL) ∨ ∃ (j : Nat) (M' : List Int), 1 ≤ j ∧ j ≤ n ∧ f = n - j ∧ M'.length = n ∧ t = R L M' n c k z e ok B BL (j : Int)) ?_ n _ (.inl ⟨rfl, rfl⟩))
  rintro f t (⟨rfl, rfl⟩ | ⟨j, M', g1, g2, rfl, g3, rfl⟩)
  · refine (sE L M f c k z e ok B BL rd (pL_of (j := 0) hM h0)).mono ?_
    rintro e' t ⟨rfl, rfl⟩
    exact .inl ⟨rfl, f - 1, by omega, .inr ⟨1, M.set (ix 0) (IntKind.u8.wrap (M.getD (ix 0) 0 + 1)), by omega, by omega, rfl, by rw [List.length_set]; exact hM, by rw [show i1 0 = ((1 : Nat) : Int) from i1_eq (j := 0) (by omega)]⟩⟩
  · by_cases hj : j = n
    · subst hj
      refine (sX L M' j c k z e ok B BL (j : Int) M rd ⟨trivial, by rw [decide_eq_false_iff_not]; omega⟩).mono ?_
      rintro e' t ⟨rfl, rfl⟩
      exact .inr ⟨(by intro x; cases x), rfl, rfl⟩
    · refine (sR L M' n c k z e ok B BL (j : Int) M rd (pL_of g3 (by omega))).mono ?_
      rintro e' t ⟨rfl, rfl⟩
      exact .inl ⟨rfl, n - (j + 1), by omega, .inr ⟨j + 1, M'.set (ix (j : Int)) (IntKind.u8.wrap (M'.getD (ix (j : Int)) 0 + 1)), by omega, by omega, rfl, by rw [List.length_set]; exact g3, by rw [i1_eq (by omega)]⟩⟩
end ko
namespace kz
noncomputable def H (L M : List Int) (n c : Nat) (k z e : Int) (ok : Bool) : Nat → Option Ob := fun i => match i with
  | 0 => some (.cells (.ints .u8 L) 5)
  | 2 => some (.cells (.ints .u8 M) 5)
  | _ => none
noncomputable def HZ (L : List Int) (n c : Nat) (k z e : Int) (ok : Bool) : Nat → Option Ob := fun i => match i with
  | 0 => some (.cells (.ints .u8 L) 5)
  | _ => none
noncomputable def E (L M : List Int) (n c : Nat) (k z e : Int) (ok : Bool) : St := ⟨[.slice (some ⟨0, 0, none⟩) n c, undef, .bool false, .slice (some ⟨2, 0, some 1⟩) (0 + n) (0 + n), .int .i64 k, .slice (some ⟨7, 0, none⟩) 0 0, .int .i64 z, .int .i64 e, .bool ok, .int .i64 0] ++ U 4 ++ J 3 ++ [undef] ++ J 3 ++ [.tuple #[.int .i64 k, .slice (some ⟨7, 0, none⟩) 0 0, .int .i64 z, .int .i64 e]] ++ J 1 ++ [.tuple #[.int .i64 k, .slice (some ⟨7, 0, none⟩) 0 0, .int .i64 z, .int .i64 e]] ++ J 9 ++ U 48, [], Tr.rebuild (H L M n c k z e ok) 8, 8, 1, [], fun _ => false, True, []⟩
noncomputable def R (L M : List Int) (n c : Nat) (k z e : Int) (ok : Bool) (i : Int) : St := ⟨[.slice (some ⟨0, 0, none⟩) n c, undef, .bool false, .slice (some ⟨2, 0, some 1⟩) (0 + n) (0 + n), .int .i64 k, .slice (some ⟨7, 0, none⟩) 0 0, .int .i64 z, .int .i64 e, .bool ok, .int .i64 i] ++ U 4 ++ J 3 ++ [undef] ++ J 3 ++ [.tuple #[.int .i64 k, .slice (some ⟨7, 0, none⟩) 0 0, .int .i64 z, .int .i64 e]] ++ J 1 ++ [.tuple #[.int .i64 k, .slice (some ⟨7, 0, none⟩) 0 0, .int .i64 z, .int .i64 e]] ++ J 9 ++ (J 14 ++ U 34), [], Tr.rebuild (H L M n c k z e ok) 8, 8, 1, [], fun _ => false, True, []⟩
noncomputable def Z (L : List Int) (n c : Nat) (k z e : Int) (ok : Bool) (i : Int) : St := ⟨[.slice (some ⟨0, 0, none⟩) n c, undef, .bool false, .slice (some ⟨2, 0, some 1⟩) (0 + n) (0 + n), .int .i64 k, .slice (some ⟨7, 0, none⟩) 0 0, .int .i64 z, .int .i64 e, .bool ok, .int .i64 i] ++ U 4 ++ J 3 ++ [undef] ++ J 3 ++ [.tuple #[.int .i64 k, .slice (some ⟨7, 0, none⟩) 0 0, .int .i64 z, .int .i64 e]] ++ J 1 ++ [.tuple #[.int .i64 k, .slice (some ⟨7, 0, none⟩) 0 0, .int .i64 z, .int .i64 e]] ++ J 9 ++ (J 14 ++ U 34), [], Tr.rebuild (HZ L n c k z e ok) 8, 8, 1, [], fun _ => false, True, []⟩
theorem kE (L M : List Int) (n c : Nat) (k z e : Int) (ok : Bool) (rd : Option Nat) : ((mk Try.prog Given.nothing 200).code 4 rd lbody { E L M n c k z e ok with obl := True, orc := oL }).map (fun r => (r.1, r.2.obl, seenIn r.2 (R L (M.set (ix 0) (IntKind.u8.wrap (M.getD (ix 0) 0 + 1))) n c k z e ok (i1 0)) [])) = some (.normal, pL M n 0, seenAs (R L (M.set (ix 0) (IntKind.u8.wrap (M.getD (ix 0) 0 + 1))) n c k z e ok (i1 0)) [] 8) := by kernel_rfl
theorem kR (L M : List Int) (n c : Nat) (k z e : Int) (ok : Bool) (i : Int) (rd : Option Nat) : ((mk Try.prog Given.nothing 200).code 4 rd lbody { R L M n c k z e ok i with obl := True, orc := oL }).map (fun r => (r.1, r.2.obl, seenIn r.2 (R L (M.set (ix i) (IntKind.u8.wrap (M.getD (ix i) 0 + 1))) n c k z e ok (i1 i)) [])) = some (.normal, pL M n i, seenAs (R L (M.set (ix i) (IntKind.u8.wrap (M.getD (ix i) 0 + 1))) n c k z e ok (i1 i)) [] 8) := by kernel_rfl
theorem kX (L M : List Int) (n c : Nat) (k z e : Int) (ok : Bool) (i : Int) (rd : Option Nat) : ((mk Try.prog Given.nothing 200).code 4 rd lbody { R L M n c k z e ok i with obl := True, orc := [some false] }).map (fun r => (r.1, r.2.obl, seenIn r.2 (Z L n c k z e ok i) [])) = some (.exit 0, True ∧ decide (i < ((0 + n : Nat) : Int)) = false, seenAs (Z L n c k z e ok i) [] 8) := by kernel_rfl
theorem sE (L M : List Int) (n c : Nat) (k z e : Int) (ok : Bool) (rd : Option Nat) (hp : pL M n 0) : Step Try.prog rd (E L M n c k z e ok) lbody (E L M n c k z e ok) (fun e' t => e' = .normal ∧ t = R L (M.set (ix 0) (IntKind.u8.wrap (M.getD (ix 0) 0 + 1))) n c k z e ok (i1 0)) :=
  Step.std pg (GivenOk.nothing _) (kE L M n c k z e ok rd) hp (show 8 ≤ 8 by decide) (g := H L (M.set (ix 0) (IntKind.u8.wrap (M.getD (ix 0) 0 + 1))) n c k z e ok) rfl (by kernel_rfl)
theorem sR (L M : List Int) (n c : Nat) (k z e : Int) (ok : Bool) (i : Int) (M0 : List Int) (rd : Option Nat) (hp : pL M n i) : Step Try.prog rd (E L M0 n c k z e ok) lbody (R L M n c k z e ok i) (fun e' t => e' = .normal ∧ t = R L (M.set (ix i) (IntKind.u8.wrap (M.getD (ix i) 0 + 1))) n c k z e ok (i1 i)) :=
  Step.std pg (GivenOk.nothing _) (kR L M n c k z e ok i rd) hp (show 8 ≤ 8 by decide) (g := H L (M.set (ix i) (IntKind.u8.wrap (M.getD (ix i) 0 + 1))) n c k z e ok) rfl (by kernel_rfl)
theorem sX (L M : List Int) (n c : Nat) (k z e : Int) (ok : Bool) (i : Int) (M0 : List Int) (rd : Option Nat) (hp : True ∧ decide (i < ((0 + n : Nat) : Int)) = false) : Step Try.prog rd (E L M0 n c k z e ok) lbody (R L M n c k z e ok i) (fun e' t => e' = .exit 0 ∧ t = Z L n c k z e ok i) :=
  Step.std pg (GivenOk.nothing _) (kX L M n c k z e ok i rd) hp (show 8 ≤ 8 by decide) (g := HZ L n c k z e ok) rfl (by kernel_rfl)
theorem loop (L M : List Int) (n c : Nat) (k z e : Int) (ok : Bool) (hM : M.length = n) (h0 : 0 < n) (hm : n ≤ 2000) (rd : Option Nat) : CodeOk Try.prog rd (.loop lbody) (E L M n c k z e ok) (.exit 0) (Z L n c k z e ok ((n : Nat) : Int)) := by
  refine CodeOk.of_step (Step.loop (fun f t => (f = n ∧ t = E L M n c k z e ok) ∨ ∃ (j : Nat) (M' : List Int), 1 ≤ j ∧ j ≤ n ∧ f = n - j ∧ M'.length = n ∧ t = R L M' n c k z e ok (j : Int)) ?_ n _ (.inl ⟨rfl, rfl⟩))
  rintro f t (⟨rfl, rfl⟩ | ⟨j, M', g1, g2, rfl, g3, rfl⟩)
  · refine (sE L M f c k z e ok rd (pL_of (j := 0) hM h0)).mono ?_
    rintro e' t ⟨rfl, rfl⟩
    exact .inl ⟨rfl, f - 1, by omega, .inr ⟨1, M.set (ix 0) (IntKind.u8.wrap (M.getD (ix 0) 0 + 1)), by omega, by omega, rfl, by rw [List.length_set]; exact hM, by rw [show i1 0 = ((1 : Nat) : Int) from i1_eq (j := 0) (by omega)]⟩⟩
  · by_cases hj : j = n
    · subst hj
      refine (sX L M' j c k z e ok (j : Int) M rd ⟨trivial, by rw [decide_eq_false_iff_not]; omega⟩).mono ?_
      rintro e' t ⟨rfl, rfl⟩
      exact .inr ⟨(by intro x; cases x), rfl, rfl⟩
    · refine (sR L M' n c k z e ok (j : Int) M rd (pL_of g3 (by omega))).mono ?_
      rintro e' t ⟨rfl, rfl⟩
      exact .inl ⟨rfl, n - (j + 1), by omega, .inr ⟨j + 1, M'.set (ix (j : Int)) (IntKind.u8.wrap (M'.getD (ix (j : Int)) 0 + 1)), by omega, by omega, rfl, by rw [List.length_set]; exact g3, by rw [i1_eq (by omega)]⟩⟩
end kz
end
end fc
end Go.Proofs.Ytmgnpfapigenpab
namespace Go.Proofs.Ytmgnpfapigenpab
open Go.ChangeShapes Go.WideShapes Go.ChangeAt Go.RowKit Go.Cln
namespace fc
open fr
set_option linter.unusedVariables false
noncomputable section
noncomputable def ask4 (S1 : St) (f : FuncId) (c : Code) (S : St) : Option Ask2 := if f == 4 then some ⟨⟨[14, 15, 16, 18, 19, 20, 22, 24, 25, 26, 27, 28, 29, 30, 31, 32], [], [], [1]⟩, .exit 0, fun _ => S1⟩ else none
/-- for looking only -/
noncomputable def KP (EC : TE) (S1 : St) : Given := { Given.framesO { Given.one 5 (.bool true) with loop := fun f c s => if f == 4 then some (.exit 0, { S1 with obl := s.obl, orc := s.orc }) else none } (FC EC) with fits := true }
noncomputable def KR (EC : TE) (S1 : St) : Given := { Given.framesO (Given.asking2 (Given.one 5 (.bool true)) Try.prog (ask4 S1)) (FC EC) with fits := true }
theorem KR_ok (EC : TE) (S1 : St) : GivenOk Try.prog (KR EC S1) := frames_fits (((GivenOk.one (P := Try.prog) (f := 5) (v := .bool true) rfl known).asking2 (ask4 S1)).framesO (FC_ok EC)) true
def M1 (L : List Int) (n : Nat) : List Int := (L.take n).take (0 + n)
def W1 (L : List Int) (n : Nat) : List Int := L.take n
def okB (L : List Int) (n : Nat) : Bool := beqB (bytesI (List.take (0 + n) (List.take n L))).toList (bytesI (List.take n L)).toList
def SE (EC : TE) (L : List Int) (n c : Nat) : St := ke.Z L n c 0 0 (EC (M1 L n) (0 + n)) (okB L n) ((n : Nat) : Int)
def SO (L : List Int) (n c : Nat) : St := ko.Z L n c ((M1 L n).getD 18 0) (sz (M1 L n)) 0 (okB L n) ((sz (M1 L n)).toNat - 19) (bdy (M1 L n)) ((n : Nat) : Int)
def SZ (L : List Int) (n c : Nat) : St := kz.Z L n c ((M1 L n).getD 18 0) (sz (M1 L n)) 0 (okB L n) ((n : Nat) : Int)
def aI (n c : Nat) : List Value := [.slice (some ⟨0, 0, none⟩) n c]
noncomputable def rE (EC : TE) (L : List Int) (n c : Nat) (o : List (Option Bool)) : Option (Value × St) := (mk Try.prog (KR EC (SE EC L n c)) 300).call 4 (aI n c) (smSt 1 (hI L) o)
noncomputable def rO (EC : TE) (L : List Int) (n c : Nat) (o : List (Option Bool)) : Option (Value × St) := (mk Try.prog (KR EC (SO L n c)) 300).call 4 (aI n c) (smSt 1 (hI L) o)
noncomputable def rZ (EC : TE) (L : List Int) (n c : Nat) (o : List (Option Bool)) : Option (Value × St) := (mk Try.prog (KR EC (SZ L n c)) 300).call 4 (aI n c) (smSt 1 (hI L) o)
noncomputable def xE (EC : TE) (L : List Int) (n c : Nat) (o : List (Option Bool)) : Option (Value × St) := (mk Try.prog (KP EC (SE EC L n c)) 300).call 4 (aI n c) (smSt 1 (hI L) o)
noncomputable def xO (EC : TE) (L : List Int) (n c : Nat) (o : List (Option Bool)) : Option (Value × St) := (mk Try.prog (KP EC (SO L n c)) 300).call 4 (aI n c) (smSt 1 (hI L) o)
noncomputable def xZ (EC : TE) (L : List Int) (n c : Nat) (o : List (Option Bool)) : Option (Value × St) := (mk Try.prog (KP EC (SZ L n c)) 300).call 4 (aI n c) (smSt 1 (hI L) o)
end
end fc
end Go.Proofs.Ytmgnpfapigenpab
namespace Go.Proofs.Ytmgnpfapigenpab
open Go.ChangeShapes Go.WideShapes Go.ChangeAt Go.RowKit Go.Cln
namespace fc
open fr
set_option linter.unusedVariables false
noncomputable section
def T1 (L : List Int) (n : Nat) : List Int := List.take (0 + n) (L.take n)
def c0 (L : List Int) (n : Nat) : Prop := ((True ∧ decide ((1500 : Int) < (n : Int)) = false) ∧ decide ((0 + n) ≤ 0) = false) ∧ (0 + n ≤ L.length ∧ 0 + 0 ≤ ([] : List Int).length ∧ (0 + n) * 1 ≤ mostBytes ∧ 0 + n ≤ mostBytes)
def c1 (L : List Int) (n : Nat) (A : Prop) : Prop := ((c0 L n ∧ A) ∧ 0 + (0 + n) ≤ (L.take n).length) ∧ 0 + n ≤ L.length
def bS (L : List Int) (n : Nat) : Prop := okB L n = true
def lpE (EC : TE) (L : List Int) (n c : Nat) : Prop := ∀ rd, CodeOk Try.prog rd (.loop lbody) (ke.E L (L.take n) n c 0 0 (EC (M1 L n) (0 + n)) (okB L n)) (.exit 0) (SE EC L n c)
def lpO (L : List Int) (n c : Nat) : Prop := ∀ rd, CodeOk Try.prog rd (.loop lbody) (ko.E L (L.take n) n c ((M1 L n).getD 18 0) (sz (M1 L n)) 0 (okB L n) ((sz (M1 L n)).toNat - 19) (bdy (M1 L n))) (.exit 0) (SO L n c)
def lpZ (L : List Int) (n c : Nat) : Prop := ∀ rd, CodeOk Try.prog rd (.loop lbody) (kz.E L (L.take n) n c ((M1 L n).getD 18 0) (sz (M1 L n)) 0 (okB L n)) (.exit 0) (SZ L n c)
def pE (EC : TE) (L : List Int) (n c : Nat) : Prop := (((c1 L n (EC = eF ∧ Byt (T1 L n) ∧ 0 + n = (T1 L n).length ∧ 0 + n ≤ 0 + n ∧ 0 + n ≤ 2000 ∧ ¬ okF (T1 L n) (0 + n)) ∧ lpE EC L n c) ∧ (EC = eF ∧ Byt (L.take n) ∧ n = (L.take n).length ∧ ¬ okF (L.take n) n)) ∧ bS L n) ∧ decide (EC (M1 L n) (0 + n) = EC (L.take n) n) = true
def W0 (L : List Int) (n : Nat) : List Int := (L.drop 19).take ((sz (L.take n)).toNat - 19)
def aO (L : List Int) (n c : Nat) (A : Prop) : Prop := Byt (T1 L n) ∧ 0 + n = (T1 L n).length ∧ 0 + n ≤ 0 + n ∧ 0 + n ≤ 2000 ∧ okF (T1 L n) (0 + n) ∧ A
def pO (L : List Int) (n c : Nat) : Prop := (((((((c1 L n (aO L n c (19 < sz (T1 L n))) ∧ lpO L n c) ∧ (Byt (L.take n) ∧ n = (L.take n).length ∧ n ≤ c ∧ okF (L.take n) n)) ∧ bS L n) ∧ decide ((M1 L n).getD 18 0 = (L.take n).getD 18 0) = true) ∧ 0 + ((sz (M1 L n)).toNat - 19) ≤ (bdy (M1 L n)).length) ∧ 19 + ((sz (L.take n)).toNat - 19) ≤ L.length) ∧ beqB (bytesI (List.take ((sz (M1 L n)).toNat - 19) (bdy (M1 L n)))).toList (bytesI (W0 L n)).toList = true) ∧ decide (sz (M1 L n) = sz (L.take n)) = true
def pZ (L : List Int) (n c : Nat) : Prop := ((((((c1 L n (aO L n c (sz (T1 L n) = 19)) ∧ lpZ L n c) ∧ (Byt (L.take n) ∧ n = (L.take n).length ∧ n ≤ c ∧ okF (L.take n) n)) ∧ bS L n) ∧ decide ((M1 L n).getD 18 0 = (L.take n).getD 18 0) = true) ∧ 19 + ((sz (L.take n)).toNat - 19) ≤ L.length) ∧ beqB [] (bytesI (W0 L n)).toList = true) ∧ decide (sz (M1 L n) = sz (L.take n)) = true
def oE : List (Option Bool) := [some false, some false, some false, some false, some true, none, none, none, none, none, none, none, none, none, none, none, none, none, none, none, none, none, none, some true]
def oO : List (Option Bool) := [some false, some false, some true, some true, some true, some true, none, none, none, some true, none, none, none, none, none, some true, none, none, none, some true]
def oZ : List (Option Bool) := [some false, some false, some true, some false, some true, some true, none, none, none, some true, none, none, none, none, none, some true, none, none, none, some true]
theorem runE (EC : TE) (L : List Int) (n c : Nat) : (rE EC L n c oE).map (fun r => (r.1, r.2.obl)) = some (.bool true, pE EC L n c) := by kernel_rfl
theorem runO (EC : TE) (L : List Int) (n c : Nat) : (rO EC L n c oO).map (fun r => (r.1, r.2.obl)) = some (.bool true, pO L n c) := by kernel_rfl
theorem runZ (EC : TE) (L : List Int) (n c : Nat) : (rZ EC L n c oZ).map (fun r => (r.1, r.2.obl)) = some (.bool true, pZ L n c) := by kernel_rfl
def pB (n : Nat) : Prop := True ∧ decide ((1500 : Int) < (n : Int)) = true
theorem runB (L : List Int) (n c : Nat) : ((mk Try.prog KW 300).call 4 (aI n c) (smSt 1 (hI L) [some true])).map (fun r => (r.1, r.2.obl)) = some (.bool true, pB n) := by kernel_rfl
theorem runN : ((mk Try.prog KW 300).call 4 [.slice none 0 0] (St.start 0 .leaf [])).map (fun r => (r.1, r.2.obl)) = some (.bool true, True) := by kernel_rfl
theorem runU (c : Nat) : ((mk Try.prog KW 300).call 4 (aI 0 c) (St.start 1 .leaf [])).map (fun r => (r.1, r.2.obl)) = some (.bool true, True) := by kernel_rfl
end
end fc
end Go.Proofs.Ytmgnpfapigenpab
namespace Go.Proofs.Ytmgnpfapigenpab
open Go.ChangeShapes Go.WideShapes Go.ChangeAt Go.RowKit Go.Cln
namespace fc
open fr
set_option linter.unusedVariables false
noncomputable section
theorem eZ : beqB [] (bytesI []).toList = true := by kernel_rfl
theorem T1_eq {L : List Int} {n : Nat} (hn : L.length = n) : T1 L n = L := by unfold T1; rw [Nat.zero_add, take_all hn, take_all hn]
theorem M1_eq {L : List Int} {n : Nat} (hn : L.length = n) : M1 L n = L := T1_eq hn
theorem bS_of {L : List Int} {n : Nat} (hn : L.length = n) : bS L n := by unfold bS okB; exact beqB_of (by rw [Nat.zero_add, take_all hn, take_all hn])
theorem c0_of {L : List Int} {n : Nat} (hn : L.length = n) (h0 : 0 < n) (h1 : n ≤ 1500) : c0 L n :=
  ⟨⟨⟨trivial, by rw [decide_eq_false_iff_not]; omega⟩, by rw [decide_eq_false_iff_not]; omega⟩, by omega, Nat.le_refl _, by unfold mostBytes; omega, by unfold mostBytes; omega⟩
theorem c1_of {L : List Int} {n : Nat} {A : Prop} (hn : L.length = n) (h0 : 0 < n) (h1 : n ≤ 1500) (hA : A) : c1 L n A :=
  ⟨⟨⟨c0_of hn h0 h1, hA⟩, by rw [take_all hn]; omega⟩, by omega⟩
theorem pE_ok {L : List Int} {n c : Nat} (hB : Byt L) (hn : L.length = n) (h0 : 0 < n) (h1 : n ≤ 1500) (h : ¬ okF L n) : pE eF L n c := by
  refine ⟨⟨⟨⟨c1_of hn h0 h1 ?_, ?_⟩, ?_⟩, bS_of hn⟩, ?_⟩
  · rw [T1_eq hn, Nat.zero_add]
    exact ⟨rfl, hB, hn.symm, Nat.le_refl _, by omega, h⟩
  · intro rd
    exact ke.loop L (L.take n) n c 0 0 _ _ (by rw [take_all hn]; exact hn) h0 (by omega) rd
  · rw [take_all hn]
    exact ⟨rfl, hB, hn.symm, h⟩
  · rw [M1_eq hn, take_all hn, Nat.zero_add, decide_eq_true_eq]
theorem bdy_len {L : List Int} {n : Nat} (hn : L.length = n) (h : okF L n) : (bdy L).length = (sz L).toNat - 19 := by
  obtain ⟨g1, g2, g3, g4, g5, g6, g7⟩ := h
  unfold bdy
  rw [List.length_take, List.length_drop]; omega
theorem W0_eq {L : List Int} {n : Nat} (hn : L.length = n) : W0 L n = bdy L := by unfold W0 bdy; rw [take_all hn]
theorem pO_ok {L : List Int} {n c : Nat} (hB : Byt L) (hn : L.length = n) (h0 : 0 < n) (h1 : n ≤ 1500) (hc : n ≤ c) (h : okF L n) (hz : 19 < sz L) : pO L n c := by
  have hl := bdy_len hn h
  have h' := h
  obtain ⟨g1, g2, g3, g4, g5, g6, g7⟩ := h'
  refine ⟨⟨⟨⟨⟨⟨⟨⟨c1_of hn h0 h1 ?_, ?_⟩, ?_⟩, bS_of hn⟩, ?_⟩, ?_⟩, ?_⟩, ?_⟩, ?_⟩
  · unfold aO
    rw [T1_eq hn, Nat.zero_add]
    exact ⟨hB, hn.symm, Nat.le_refl _, by omega, h, hz⟩
  · intro rd
    exact ko.loop L (L.take n) n c _ _ 0 _ _ _ (by rw [take_all hn]; exact hn) h0 (by omega) rd
  · rw [take_all hn]
    exact ⟨hB, hn.symm, hc, h⟩
  · rw [M1_eq hn, take_all hn, decide_eq_true_eq]
  · rw [M1_eq hn, hl]; omega
  · rw [take_all hn]; omega
  · rw [M1_eq hn, W0_eq hn]
    exact beqB_of (take_all hl)
  · rw [M1_eq hn, take_all hn, decide_eq_true_eq]
theorem pZ_ok {L : List Int} {n c : Nat} (hB : Byt L) (hn : L.length = n) (h0 : 0 < n) (h1 : n ≤ 1500) (hc : n ≤ c) (h : okF L n) (hz : sz L = 19) : pZ L n c := by
  have h' := h
  obtain ⟨g1, g2, g3, g4, g5, g6, g7⟩ := h'
  refine ⟨⟨⟨⟨⟨⟨⟨c1_of hn h0 h1 ?_, ?_⟩, ?_⟩, bS_of hn⟩, ?_⟩, ?_⟩, ?_⟩, ?_⟩
  · unfold aO
    rw [T1_eq hn, Nat.zero_add]
    exact ⟨hB, hn.symm, Nat.le_refl _, by omega, h, hz⟩
  · intro rd
    exact kz.loop L (L.take n) n c _ _ 0 _ (by rw [take_all hn]; exact hn) h0 (by omega) rd
  · rw [take_all hn]
    exact ⟨hB, hn.symm, hc, h⟩
  · rw [M1_eq hn, take_all hn, decide_eq_true_eq]
  · rw [take_all hn]; omega
  · have e : W0 L n = [] := by unfold W0; rw [take_all hn, hz]; rfl
    rw [e]; exact eZ
  · rw [M1_eq hn, take_all hn, decide_eq_true_eq]
theorem frameCuts (W : World) (a0 : Option Addr) (n0 c0 : Nat) (s0 : (a0 = none ∧ n0 = 0 ∧ c0 = 0) ∨ ∃ b o, a0 = some ⟨b, o, none⟩ ∧ n0 ≤ c0 ∧ (c0 : Int) ≤ 9223372036854775807)
    (z0 : n0 = 0 ∨ ∃ (b o : Nat) (L : List Int), a0 = some ⟨b, o, none⟩ ∧ L.length = n0 ∧ (∀ x ∈ L, (Lit.int .u8 x).wf = true) ∧ HasCells W b o (L.map (Value.int .u8))) :
    Calls Try.prog 4 #[.slice a0 n0 c0] W fun e w' => e = .returned (.bool true) ∧ Below W.heap.size W w' := by
  rcases s0 with ⟨rfl, rfl, rfl⟩ | ⟨b, o, rfl, hle, hmax⟩
  · exact ran pg KW_ok runN trivial rfl rfl W
  · have zero : n0 = 0 → Calls Try.prog 4 #[.slice (some ⟨b, o, none⟩) n0 c0] W fun e w' => e = .returned (.bool true) ∧ Below W.heap.size W w' := fun h0 => by
      subst h0
      exact ranG pg KW_ok (ρ := fun _ => ⟨b, o, 0⟩) (runU c0) trivial rfl (named_hs 1 _ _ W) (VL.cons (VR.unread (a := ⟨b, o, none⟩) (by decide) rfl rfl hle) VL.nil)
    rcases z0 with h0 | ⟨b', o', L, e, hl, hw, hc⟩
    · exact zero h0
    · cases e
      by_cases h0 : n0 = 0
      · exact zero h0
      · have hB : Byt L := fun x hx => byte_in (hw x hx)
        by_cases hb : 1500 < n0
        · obtain ⟨ρ, g1, g2⟩ := ints_start (t := 5) [some true] hc
          exact ranG pg KW_ok (ρ := ρ) (runB L n0 c0) ⟨trivial, by rw [decide_eq_true_eq]; omega⟩ rfl g1 (VL.cons (g2 n0 c0 hle) VL.nil)
        · by_cases hok : okF L n0
          · by_cases hz : sz L = 19
            · obtain ⟨ρ, g1, g2⟩ := ints_start (t := 5) oZ hc
              exact ranG pg (KR_ok eF _) (ρ := ρ) (runZ eF L n0 c0) (pZ_ok hB hl (by omega) (by omega) hle hok hz) rfl g1 (VL.cons (g2 n0 c0 hle) VL.nil)
            · obtain ⟨ρ, g1, g2⟩ := ints_start (t := 5) oO hc
              exact ranG pg (KR_ok eF _) (ρ := ρ) (runO eF L n0 c0) (pO_ok hB hl (by omega) (by omega) hle hok (by have := hok.2.2.1; omega)) rfl g1 (VL.cons (g2 n0 c0 hle) VL.nil)
          · obtain ⟨ρ, g1, g2⟩ := ints_start (t := 5) oE hc
            exact ranG pg (KR_ok eF _) (ρ := ρ) (runE eF L n0 c0) (pE_ok hB hl (by omega) (by omega) hok) rfl g1 (VL.cons (g2 n0 c0 hle) VL.nil)
end
end fc
end Go.Proofs.Ytmgnpfapigenpab
