/- Read off the code by the clean reading. -/
import Derived.Test.YtmgnpfapigenpaaClnHe
set_option linter.unusedVariables false
set_option linter.unusedSimpArgs false
set_option linter.deprecated false
set_option maxRecDepth 100000
namespace Go.Proofs.Ytmgnpfapigenpaa
open Go.ChangeShapes Go.WideShapes Go.ChangeAt Go.RowKit Go.Cln
namespace hd
open hc hx hy hz tb tc td ha
set_option linter.unusedVariables false
noncomputable section
def P14ni (KF : KT') (D : DT) (M : List Int) (m d : Nat) : Prop := ((((True ∧ KF = kb) ∧ decide (64 + m ≤ 64) = false) ∧ (0 + m ≤ M.length ∧ 0 + 64 ≤ (xl (KF []) 54).length ∧ (64 + m) * 1 ≤ mostBytes ∧ 64 + m ≤ mostBytes)) ∧ b22 D (IN KF [] M m) (64 + m)) ∧ b22 D (xl (KF []) 92 ++ ot1 (D (IN KF [] M m))) 84
def h14ni (M : List Int) (m d : Nat) : List (Option Ob) := [oM M] ++ ha.nn 313
theorem N14ni (KF : KT') (D : DT) (A : AT) (E : ET) (M : List Int) (m d : Nat) : (r14 KF D A E (.slice none 0 0) (vs 0 m d) [oM M] o14).map (fun r => (r.1, r.2.obl, r.2.next, keepL ([true] ++ List.replicate 313 false) r.2.heap.get 0)) = some (outV (tgD KF D [] (IN KF [] M m)), P14ni KF D M m d, (h14ni M m d).length, h14ni M m d) := by kernel_rfl
theorem t14ni (M : List Int) (m d : Nat) (hm : m = M.length) (g0 : 0 < m) (g1 : m ≤ 1000) : CallOk Try.prog 14 [(.slice none 0 0), (vs 0 m d)] (smSt 1 [oM M] []) (outV (tgN [] M)) (smSt 1 (h14ni M m d) []) := by
  have eX : (IN kb [] M m) = xl (kb []) 54 ++ M := by unfold IN; rw [hm, List.take_length]; exact List.take_of_length_le (by rw [List.length_append, xl_len]; omega)
  have hp : P14ni kb shaN M m d := by
    refine ⟨⟨⟨⟨⟨trivial, rfl⟩, by rw [decide_eq_false_iff_not]; omega⟩, by omega, by rw [xl_len]; omega, by unfold mostBytes; omega, by unfold mostBytes; omega⟩, rfl, ?_, by omega, by omega⟩, rfl, ?_, by omega, by omega⟩
    · rw [eX, List.length_append, xl_len]; omega
    · rw [List.length_append, xl_len, ot_len]
  have := frame_by sw.pg (KT_ok kb shaN AB DS) _ (N14ni kb shaN AB DS M m d) hp (by rfl) rfl
  rw [eX] at this
  exact this
def P14nn (KF : KT') (D : DT)  : Prop := ((True ∧ KF = kb) ∧ b22 D (xl (KF []) 54) 64) ∧ b22 D (xl (KF []) 92 ++ ot1 (D (xl (KF []) 54))) 84
def h14nn  : List (Option Ob) := [] ++ ha.nn 312
theorem N14nn (KF : KT') (D : DT) (A : AT) (E : ET)  : (r14 KF D A E (.slice none 0 0) (.slice none 0 0) [] []).map (fun r => (r.1, r.2.obl, r.2.next, keepL ([] ++ List.replicate 312 false) r.2.heap.get 0)) = some (outV (tgD KF D [] (xl (KF []) 54)), P14nn KF D , (h14nn ).length, h14nn ) := by kernel_rfl
theorem t14nn  : CallOk Try.prog 14 [(.slice none 0 0), (.slice none 0 0)] (smSt 0 [] []) (outV (tgN [] [])) (smSt 0 (h14nn ) []) := by
  have eX : (xl (kb []) 54) = xl (kb []) 54 ++ [] := by rw [List.append_nil]
  have hp : P14nn kb shaN  := by
    refine ⟨⟨⟨trivial, rfl⟩, rfl, ?_, by omega, by omega⟩, rfl, ?_, by omega, by omega⟩
    · rw [xl_len]
    · rw [List.length_append, xl_len, ot_len]
  have := frame_by sw.pg (KT_ok kb shaN AB DS) _ (N14nn kb shaN AB DS ) hp (by rfl) rfl
  rw [eX] at this
  exact this
def P14nz (KF : KT') (D : DT) (d : Nat) : Prop := ((True ∧ KF = kb) ∧ b22 D (xl (KF []) 54) 64) ∧ b22 D (xl (KF []) 92 ++ ot1 (D (xl (KF []) 54))) 84
def h14nz (d : Nat) : List (Option Ob) := [none] ++ ha.nn 312
theorem N14nz (KF : KT') (D : DT) (A : AT) (E : ET) (d : Nat) : (r14 KF D A E (.slice none 0 0) (vs 0 0 d) [none] []).map (fun r => (r.1, r.2.obl, r.2.next, keepL ([false] ++ List.replicate 312 false) r.2.heap.get 0)) = some (outV (tgD KF D [] (xl (KF []) 54)), P14nz KF D d, (h14nz d).length, h14nz d) := by kernel_rfl
theorem t14nz (d : Nat) : CallOk Try.prog 14 [(.slice none 0 0), (vs 0 0 d)] (smSt 1 [none] []) (outV (tgN [] [])) (smSt 1 (h14nz d) []) := by
  have eX : (xl (kb []) 54) = xl (kb []) 54 ++ [] := by rw [List.append_nil]
  have hp : P14nz kb shaN d := by
    refine ⟨⟨⟨trivial, rfl⟩, rfl, ?_, by omega, by omega⟩, rfl, ?_, by omega, by omega⟩
    · rw [xl_len]
    · rw [List.length_append, xl_len, ot_len]
  have := frame_by sw.pg (KT_ok kb shaN AB DS) _ (N14nz kb shaN AB DS d) hp (by rfl) rfl
  rw [eX] at this
  exact this
end
end hd
end Go.Proofs.Ytmgnpfapigenpaa
