/- Read off the code by the clean reading. -/
import Derived.Test.YteknepfcbpoooaaClnTc
set_option linter.unusedVariables false
set_option linter.unusedSimpArgs false
set_option linter.deprecated false
set_option maxRecDepth 100000
namespace Go.Proofs.Yteknepfcbpoooaa
open Go.ChangeShapes Go.WideShapes Go.ChangeAt Go.RowKit Go.Cln
namespace tc
open hc hx hy hz tb
set_option linter.unusedVariables false
noncomputable section
noncomputable def oAbig : List (Option Bool) := [some true]
noncomputable def pAbig (D : DT) (L : List Int) (n : Nat) (c : Nat) : Prop := ((True ∧ ((decide (1000 < (nI n))) = true)) ∧ True)
theorem runAbig (D : DT) (L : List Int) (n : Nat) (c : Nat) : (r3 D L n c oAbig).map (fun r => (r.1, r.2.obl)) = some (.bool true, pAbig D L n c) := by kernel_rfl
noncomputable def oAok : List (Option Bool) := [some false, some false, some false, some true, some true, some true, some true, some true, some true, some true, some true, some true, some true, some true, some true, some true, some true, some true, some true, some true, some true, some true, some true, some true, none, none, none, none, none, none, some true, none, none, none, some true, none, some true, none, none, none, some true, none, some true, none, none, some true]
noncomputable def pAok (D : DT) (L : List Int) (n : Nat) (c : Nat) : Prop := (((((((((((((((((((((((((((((((((((((True ∧ ((decide (1000 < (nI n))) = false)) ∧ ((decide ((0 + n) ≤ 0)) = false)) ∧ (((0 + n) ≤ L.length) ∧ ((0 ≤ 0) ∧ ((((0 + n) * 1) ≤ mostBytes) ∧ ((0 + n) ≤ mostBytes))))) ∧ ((decide (((0 + n) + 1) ≤ (0 + n))) = false)) ∧ ((1 ≤ 1) ∧ (((0 + (0 + n)) ≤ (List.take n L).length) ∧ (((((0 + n) + 1) * 1) ≤ mostBytes) ∧ (((0 + n) + 1) ≤ mostBytes))))) ∧ ((0 ≤ (nI n)) ∧ (((nI n) ≤ (nI ((0 + n) + 1))) ∧ (((0 : Int) ≤ 0) ∧ (0 ≤ (nI n)))))) ∧ ((D = hz.shaN) ∧ ((hx.Byt (List.take n ((List.take (0 + n) (List.take n L)) ++ [77]))) ∧ ((n = (List.take n ((List.take (0 + n) (List.take n L)) ++ [77])).length) ∧ ((n ≤ ((0 + n) + 1)) ∧ (n ≤ 1000000000)))))) ∧ ((D = hz.shaN) ∧ ((n = (List.take n L).length) ∧ ((0 < n) ∧ (n ≤ 1000000000))))) ∧ ((decide ((hy.by8 (D (List.take n ((List.take (0 + n) (List.take n L)) ++ [77]))).a 3) = (hy.by8 (D (List.take n L)).a 3))) = true)) ∧ ((decide ((hy.by8 (D (List.take n ((List.take (0 + n) (List.take n L)) ++ [77]))).a 2) = (hy.by8 (D (List.take n L)).a 2))) = true)) ∧ ((decide ((hy.by8 (D (List.take n ((List.take (0 + n) (List.take n L)) ++ [77]))).a 1) = (hy.by8 (D (List.take n L)).a 1))) = true)) ∧ ((decide ((hy.by8 (D (List.take n ((List.take (0 + n) (List.take n L)) ++ [77]))).a 0) = (hy.by8 (D (List.take n L)).a 0))) = true)) ∧ ((decide ((hy.by8 (D (List.take n ((List.take (0 + n) (List.take n L)) ++ [77]))).b 3) = (hy.by8 (D (List.take n L)).b 3))) = true)) ∧ ((decide ((hy.by8 (D (List.take n ((List.take (0 + n) (List.take n L)) ++ [77]))).b 2) = (hy.by8 (D (List.take n L)).b 2))) = true)) ∧ ((decide ((hy.by8 (D (List.take n ((List.take (0 + n) (List.take n L)) ++ [77]))).b 1) = (hy.by8 (D (List.take n L)).b 1))) = true)) ∧ ((decide ((hy.by8 (D (List.take n ((List.take (0 + n) (List.take n L)) ++ [77]))).b 0) = (hy.by8 (D (List.take n L)).b 0))) = true)) ∧ ((decide ((hy.by8 (D (List.take n ((List.take (0 + n) (List.take n L)) ++ [77]))).c 3) = (hy.by8 (D (List.take n L)).c 3))) = true)) ∧ ((decide ((hy.by8 (D (List.take n ((List.take (0 + n) (List.take n L)) ++ [77]))).c 2) = (hy.by8 (D (List.take n L)).c 2))) = true)) ∧ ((decide ((hy.by8 (D (List.take n ((List.take (0 + n) (List.take n L)) ++ [77]))).c 1) = (hy.by8 (D (List.take n L)).c 1))) = true)) ∧ ((decide ((hy.by8 (D (List.take n ((List.take (0 + n) (List.take n L)) ++ [77]))).c 0) = (hy.by8 (D (List.take n L)).c 0))) = true)) ∧ ((decide ((hy.by8 (D (List.take n ((List.take (0 + n) (List.take n L)) ++ [77]))).d 3) = (hy.by8 (D (List.take n L)).d 3))) = true)) ∧ ((decide ((hy.by8 (D (List.take n ((List.take (0 + n) (List.take n L)) ++ [77]))).d 2) = (hy.by8 (D (List.take n L)).d 2))) = true)) ∧ ((decide ((hy.by8 (D (List.take n ((List.take (0 + n) (List.take n L)) ++ [77]))).d 1) = (hy.by8 (D (List.take n L)).d 1))) = true)) ∧ ((decide ((hy.by8 (D (List.take n ((List.take (0 + n) (List.take n L)) ++ [77]))).d 0) = (hy.by8 (D (List.take n L)).d 0))) = true)) ∧ ((decide ((hy.by8 (D (List.take n ((List.take (0 + n) (List.take n L)) ++ [77]))).e 3) = (hy.by8 (D (List.take n L)).e 3))) = true)) ∧ ((decide ((hy.by8 (D (List.take n ((List.take (0 + n) (List.take n L)) ++ [77]))).e 2) = (hy.by8 (D (List.take n L)).e 2))) = true)) ∧ ((decide ((hy.by8 (D (List.take n ((List.take (0 + n) (List.take n L)) ++ [77]))).e 1) = (hy.by8 (D (List.take n L)).e 1))) = true)) ∧ ((decide ((hy.by8 (D (List.take n ((List.take (0 + n) (List.take n L)) ++ [77]))).e 0) = (hy.by8 (D (List.take n L)).e 0))) = true)) ∧ ((0 + n) ≤ ((List.take (0 + n) (List.take n L)) ++ [77]).length)) ∧ ((0 + n) ≤ L.length)) ∧ ((beqB (bytesI (List.take n ((List.take (0 + n) (List.take n L)) ++ [77]))).toList (bytesI (List.take n L)).toList) = true)) ∧ ((IntKind.i64.wrap ((nI n) + 1)) = ((nI n) + 1))) ∧ ((0 ≤ ((nI n) + 1)) ∧ ((((nI n) + 1) ≤ (nI ((0 + n) + 1))) ∧ (((0 : Int) ≤ 0) ∧ (0 ≤ ((nI n) + 1)))))) ∧ ((0 ≤ (nI n)) ∧ ((nI n) < (nI ((nI n) + 1).toNat)))) ∧ ((0 + (n * 1)).succ ≤ ((List.take (0 + n) (List.take n L)) ++ [77]).length)) ∧ ((decide ((((List.take (0 + n) (List.take n L)) ++ [77]).getD (0 + (n * 1)) 0) = 77)) = true)) ∧ True)
theorem runAok (D : DT) (L : List Int) (n : Nat) (c : Nat) : (r3 D L n c oAok).map (fun r => (r.1, r.2.obl)) = some (.bool true, pAok D L n c) := by kernel_rfl
noncomputable def oAnok : List (Option Bool) := [none, none, some true, some true, some true, some true, some true, some true, some true, some true, some true, some true, some true, some true, some true, some true, some true, some true, some true, some true, some true, some true]
noncomputable def pAnok (D : DT) : Prop := (((((((((((((((((((((((True ∧ (D = hz.shaN)) ∧ (D = hz.shaN)) ∧ ((decide ((hy.by8 (D []).a 3) = (hy.by8 (D []).a 3))) = true)) ∧ ((decide ((hy.by8 (D []).a 2) = (hy.by8 (D []).a 2))) = true)) ∧ ((decide ((hy.by8 (D []).a 1) = (hy.by8 (D []).a 1))) = true)) ∧ ((decide ((hy.by8 (D []).a 0) = (hy.by8 (D []).a 0))) = true)) ∧ ((decide ((hy.by8 (D []).b 3) = (hy.by8 (D []).b 3))) = true)) ∧ ((decide ((hy.by8 (D []).b 2) = (hy.by8 (D []).b 2))) = true)) ∧ ((decide ((hy.by8 (D []).b 1) = (hy.by8 (D []).b 1))) = true)) ∧ ((decide ((hy.by8 (D []).b 0) = (hy.by8 (D []).b 0))) = true)) ∧ ((decide ((hy.by8 (D []).c 3) = (hy.by8 (D []).c 3))) = true)) ∧ ((decide ((hy.by8 (D []).c 2) = (hy.by8 (D []).c 2))) = true)) ∧ ((decide ((hy.by8 (D []).c 1) = (hy.by8 (D []).c 1))) = true)) ∧ ((decide ((hy.by8 (D []).c 0) = (hy.by8 (D []).c 0))) = true)) ∧ ((decide ((hy.by8 (D []).d 3) = (hy.by8 (D []).d 3))) = true)) ∧ ((decide ((hy.by8 (D []).d 2) = (hy.by8 (D []).d 2))) = true)) ∧ ((decide ((hy.by8 (D []).d 1) = (hy.by8 (D []).d 1))) = true)) ∧ ((decide ((hy.by8 (D []).d 0) = (hy.by8 (D []).d 0))) = true)) ∧ ((decide ((hy.by8 (D []).e 3) = (hy.by8 (D []).e 3))) = true)) ∧ ((decide ((hy.by8 (D []).e 2) = (hy.by8 (D []).e 2))) = true)) ∧ ((decide ((hy.by8 (D []).e 1) = (hy.by8 (D []).e 1))) = true)) ∧ ((decide ((hy.by8 (D []).e 0) = (hy.by8 (D []).e 0))) = true)) ∧ True)
theorem runAnok (D : DT) : ((mk Try.prog (KD D) 300).call 3 [.slice none 0 0] (St.start 0 .leaf oAnok)).map (fun r => (r.1, r.2.obl)) = some (.bool true, pAnok D) := by kernel_rfl
noncomputable def oAzok : List (Option Bool) := [none, none, some true, some true, some true, some true, some true, some true, some true, some true, some true, some true, some true, some true, some true, some true, some true, some true, some true, some true, some true, some true]
noncomputable def pAzok (D : DT) (c : Nat) : Prop := (((((((((((((((((((((((True ∧ (D = hz.shaN)) ∧ (D = hz.shaN)) ∧ ((decide ((hy.by8 (D []).a 3) = (hy.by8 (D []).a 3))) = true)) ∧ ((decide ((hy.by8 (D []).a 2) = (hy.by8 (D []).a 2))) = true)) ∧ ((decide ((hy.by8 (D []).a 1) = (hy.by8 (D []).a 1))) = true)) ∧ ((decide ((hy.by8 (D []).a 0) = (hy.by8 (D []).a 0))) = true)) ∧ ((decide ((hy.by8 (D []).b 3) = (hy.by8 (D []).b 3))) = true)) ∧ ((decide ((hy.by8 (D []).b 2) = (hy.by8 (D []).b 2))) = true)) ∧ ((decide ((hy.by8 (D []).b 1) = (hy.by8 (D []).b 1))) = true)) ∧ ((decide ((hy.by8 (D []).b 0) = (hy.by8 (D []).b 0))) = true)) ∧ ((decide ((hy.by8 (D []).c 3) = (hy.by8 (D []).c 3))) = true)) ∧ ((decide ((hy.by8 (D []).c 2) = (hy.by8 (D []).c 2))) = true)) ∧ ((decide ((hy.by8 (D []).c 1) = (hy.by8 (D []).c 1))) = true)) ∧ ((decide ((hy.by8 (D []).c 0) = (hy.by8 (D []).c 0))) = true)) ∧ ((decide ((hy.by8 (D []).d 3) = (hy.by8 (D []).d 3))) = true)) ∧ ((decide ((hy.by8 (D []).d 2) = (hy.by8 (D []).d 2))) = true)) ∧ ((decide ((hy.by8 (D []).d 1) = (hy.by8 (D []).d 1))) = true)) ∧ ((decide ((hy.by8 (D []).d 0) = (hy.by8 (D []).d 0))) = true)) ∧ ((decide ((hy.by8 (D []).e 3) = (hy.by8 (D []).e 3))) = true)) ∧ ((decide ((hy.by8 (D []).e 2) = (hy.by8 (D []).e 2))) = true)) ∧ ((decide ((hy.by8 (D []).e 1) = (hy.by8 (D []).e 1))) = true)) ∧ ((decide ((hy.by8 (D []).e 0) = (hy.by8 (D []).e 0))) = true)) ∧ True)
theorem runAzok (D : DT) (c : Nat) : ((mk Try.prog (KD D) 300).call 3 [.slice (some ⟨0, 0, none⟩) 0 c] (St.start 1 .leaf oAzok)).map (fun r => (r.1, r.2.obl)) = some (.bool true, pAzok D c) := by kernel_rfl
end
end tc
end Go.Proofs.Yteknepfcbpoooaa
namespace Go.Proofs.Yteknepfcbpoooaa
open Go.ChangeShapes Go.WideShapes Go.ChangeAt Go.RowKit Go.Cln
namespace tc
open hc hx hy hz tb
set_option linter.unusedVariables false
noncomputable section
theorem mid_eq {L : List Int} {n : Nat} (hn : L.length = n) : List.take n (List.take (0 + n) (List.take n L) ++ [77]) = L := by
  rw [Nat.zero_add, take_all hn, take_all hn, take_end hn]
theorem end_eq {L : List Int} {n : Nat} (hn : L.length = n) : (List.take (0 + n) (List.take n L) ++ [77]).getD (0 + (n * 1)) 0 = 77 := by
  rw [Nat.zero_add, Nat.zero_add, Nat.mul_one, take_all hn, take_all hn, getD_end hn]
theorem len_eq {L : List Int} {n : Nat} (hn : L.length = n) : (List.take (0 + n) (List.take n L) ++ [77]).length = n + 1 := by
  rw [Nat.zero_add, take_all hn, take_all hn, List.length_append, hn]; rfl
theorem pAbig_ok {D : DT} {L : List Int} {n c : Nat} (h : 1000 < n) : pAbig D L n c := by
  unfold pAbig
  repeat' apply And.intro
  all_goals first | trivial | (simp only [nI, decide_eq_true_eq]; omega)
theorem pAok_ok {L : List Int} {n c : Nat} (hB : Byt L) (hn : L.length = n) (h0 : 0 < n) (h : n ≤ 1000) : pAok shaN L n c := by
  unfold pAok
  rw [mid_eq hn, end_eq hn, len_eq hn, take_all hn]
  generalize shaN L = X
  repeat' apply And.intro
  all_goals first | trivial | rfl | exact hB | exact hn.symm | omega | (simp only [nI, mostBytes, decide_eq_true_eq, decide_eq_false_iff_not, IntKind.wrap_i64]; omega) | exact beqB_of rfl | (simp only [decide_eq_true_eq])
theorem pAnok_ok : pAnok shaN := by
  unfold pAnok
  generalize shaN [] = X
  repeat' apply And.intro
  all_goals first | trivial | rfl | (simp only [decide_eq_true_eq])
theorem sha1Sums (W : World) (a0 : Option Addr) (n0 c0 : Nat) (s0 : (a0 = none ∧ n0 = 0 ∧ c0 = 0) ∨ ∃ b o, a0 = some ⟨b, o, none⟩ ∧ n0 ≤ c0 ∧ (c0 : Int) ≤ 9223372036854775807)
    (z0 : n0 = 0 ∨ ∃ (b o : Nat) (L : List Int), a0 = some ⟨b, o, none⟩ ∧ L.length = n0 ∧ (∀ x ∈ L, (Lit.int .u8 x).wf = true) ∧ HasCells W b o (L.map (Value.int .u8))) :
    Calls Try.prog 3 #[.slice a0 n0 c0] W fun e w' => e = .returned (.bool true) ∧ Below W.heap.size W w' := by
  rcases s0 with ⟨rfl, rfl, rfl⟩ | ⟨b, o, rfl, hle, hmax⟩
  · exact ran sw.pg (KD_ok _) (runAnok shaN) pAnok_ok rfl rfl W
  · have zero : n0 = 0 → Calls Try.prog 3 #[.slice (some ⟨b, o, none⟩) n0 c0] W fun e w' => e = .returned (.bool true) ∧ Below W.heap.size W w' := fun h0 => by
      subst h0
      exact ranG sw.pg (KD_ok _) (ρ := fun _ => ⟨b, o, 0⟩) (runAzok shaN c0) pAnok_ok rfl (named_hs 1 _ _ W) (VL.cons (VR.unread (a := ⟨b, o, none⟩) (by decide) rfl rfl hle) VL.nil)
    rcases z0 with h0 | ⟨b', o', L, e, hl, hw, hc⟩
    · exact zero h0
    · cases e
      by_cases h0 : n0 = 0
      · exact zero h0
      · have hB : Byt L := fun x hx => byte_in (hw x hx)
        by_cases hb : 1000 < n0
        · obtain ⟨ρ, g1, g2⟩ := ints_start (t := 5) oAbig hc
          exact ranG sw.pg (KD_ok _) (ρ := ρ) (runAbig shaN L n0 c0) (pAbig_ok hb) rfl g1 (VL.cons (g2 n0 c0 hle) VL.nil)
        · obtain ⟨ρ, g1, g2⟩ := ints_start (t := 5) oAok hc
          exact ranG sw.pg (KD_ok _) (ρ := ρ) (runAok shaN L n0 c0) (pAok_ok hB hl (by omega) (by omega)) rfl g1 (VL.cons (g2 n0 c0 hle) VL.nil)
end
end tc
end Go.Proofs.Yteknepfcbpoooaa
