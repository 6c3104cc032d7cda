/- Read off the code by the clean reading. -/
import Derived.Test.YtmgnpfapigenpaaClnHe
set_option linter.unusedVariables false
set_option linter.unusedSimpArgs false
set_option linter.deprecated false
set_option maxRecDepth 100000
namespace Go.Proofs.Ytmgnpfapigenpaa
open Go.ChangeShapes Go.WideShapes Go.ChangeAt Go.RowKit Go.Cln
namespace hd
open hc hx hy hz tb tc td ha
set_option linter.unusedVariables false
noncomputable section
def P14zi (KF : KT') (D : DT) (c : Nat) (M : List Int) (m d : Nat) : Prop := ((((True ∧ KF = kb) ∧ decide (64 + m ≤ 64) = false) ∧ (0 + m ≤ M.length ∧ 0 + 64 ≤ (xl (KF []) 54).length ∧ (64 + m) * 1 ≤ mostBytes ∧ 64 + m ≤ mostBytes)) ∧ b22 D (IN KF [] M m) (64 + m)) ∧ b22 D (xl (KF []) 92 ++ ot1 (D (IN KF [] M m))) 84
def h14zi (c : Nat) (M : List Int) (m d : Nat) : List (Option Ob) := [none, oM M] ++ ha.nn 313
theorem N14zi (KF : KT') (D : DT) (A : AT) (E : ET) (c : Nat) (M : List Int) (m d : Nat) : (r14 KF D A E (vs 0 0 c) (vs 1 m d) [none, oM M] o14).map (fun r => (r.1, r.2.obl, r.2.next, keepL ([false, true] ++ List.replicate 313 false) r.2.heap.get 0)) = some (outV (tgD KF D [] (IN KF [] M m)), P14zi KF D c M m d, (h14zi c M m d).length, h14zi c M m d) := by kernel_rfl
theorem t14zi (c : Nat) (M : List Int) (m d : Nat) (hm : m = M.length) (g0 : 0 < m) (g1 : m ≤ 1000) : CallOk Try.prog 14 [(vs 0 0 c), (vs 1 m d)] (smSt 2 [none, oM M] []) (outV (tgN [] M)) (smSt 2 (h14zi c M m d) []) := by
  have eX : (IN kb [] M m) = xl (kb []) 54 ++ M := by unfold IN; rw [hm, List.take_length]; exact List.take_of_length_le (by rw [List.length_append, xl_len]; omega)
  have hp : P14zi kb shaN c M m d := by
    refine ⟨⟨⟨⟨⟨trivial, rfl⟩, by rw [decide_eq_false_iff_not]; omega⟩, by omega, by rw [xl_len]; omega, by unfold mostBytes; omega, by unfold mostBytes; omega⟩, rfl, ?_, by omega, by omega⟩, rfl, ?_, by omega, by omega⟩
    · rw [eX, List.length_append, xl_len]; omega
    · rw [List.length_append, xl_len, ot_len]
  have := frame_by sw.pg (KT_ok kb shaN AB DS) _ (N14zi kb shaN AB DS c M m d) hp (by rfl) rfl
  rw [eX] at this
  exact this
def P14zn (KF : KT') (D : DT) (c : Nat) : Prop := ((True ∧ KF = kb) ∧ b22 D (xl (KF []) 54) 64) ∧ b22 D (xl (KF []) 92 ++ ot1 (D (xl (KF []) 54))) 84
def h14zn (c : Nat) : List (Option Ob) := [none] ++ ha.nn 312
theorem N14zn (KF : KT') (D : DT) (A : AT) (E : ET) (c : Nat) : (r14 KF D A E (vs 0 0 c) (.slice none 0 0) [none] []).map (fun r => (r.1, r.2.obl, r.2.next, keepL ([false] ++ List.replicate 312 false) r.2.heap.get 0)) = some (outV (tgD KF D [] (xl (KF []) 54)), P14zn KF D c, (h14zn c).length, h14zn c) := by kernel_rfl
theorem t14zn (c : Nat) : CallOk Try.prog 14 [(vs 0 0 c), (.slice none 0 0)] (smSt 1 [none] []) (outV (tgN [] [])) (smSt 1 (h14zn c) []) := by
  have eX : (xl (kb []) 54) = xl (kb []) 54 ++ [] := by rw [List.append_nil]
  have hp : P14zn kb shaN c := by
    refine ⟨⟨⟨trivial, rfl⟩, rfl, ?_, by omega, by omega⟩, rfl, ?_, by omega, by omega⟩
    · rw [xl_len]
    · rw [List.length_append, xl_len, ot_len]
  have := frame_by sw.pg (KT_ok kb shaN AB DS) _ (N14zn kb shaN AB DS c) hp (by rfl) rfl
  rw [eX] at this
  exact this
def P14zz (KF : KT') (D : DT) (c : Nat) (d : Nat) : Prop := ((True ∧ KF = kb) ∧ b22 D (xl (KF []) 54) 64) ∧ b22 D (xl (KF []) 92 ++ ot1 (D (xl (KF []) 54))) 84
def h14zz (c : Nat) (d : Nat) : List (Option Ob) := [none, none] ++ ha.nn 312
theorem N14zz (KF : KT') (D : DT) (A : AT) (E : ET) (c : Nat) (d : Nat) : (r14 KF D A E (vs 0 0 c) (vs 1 0 d) [none, none] []).map (fun r => (r.1, r.2.obl, r.2.next, keepL ([false, false] ++ List.replicate 312 false) r.2.heap.get 0)) = some (outV (tgD KF D [] (xl (KF []) 54)), P14zz KF D c d, (h14zz c d).length, h14zz c d) := by kernel_rfl
theorem t14zz (c : Nat) (d : Nat) : CallOk Try.prog 14 [(vs 0 0 c), (vs 1 0 d)] (smSt 2 [none, none] []) (outV (tgN [] [])) (smSt 2 (h14zz c d) []) := by
  have eX : (xl (kb []) 54) = xl (kb []) 54 ++ [] := by rw [List.append_nil]
  have hp : P14zz kb shaN c d := by
    refine ⟨⟨⟨trivial, rfl⟩, rfl, ?_, by omega, by omega⟩, rfl, ?_, by omega, by omega⟩
    · rw [xl_len]
    · rw [List.length_append, xl_len, ot_len]
  have := frame_by sw.pg (KT_ok kb shaN AB DS) _ (N14zz kb shaN AB DS c d) hp (by rfl) rfl
  rw [eX] at this
  exact this
end
end hd
end Go.Proofs.Ytmgnpfapigenpaa
