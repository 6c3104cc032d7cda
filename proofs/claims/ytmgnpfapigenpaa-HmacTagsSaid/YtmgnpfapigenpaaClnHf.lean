/- Read off the code by the clean reading. -/
import Derived.Test.YtmgnpfapigenpaaClnHe
set_option linter.unusedVariables false
set_option linter.unusedSimpArgs false
set_option linter.deprecated false
set_option maxRecDepth 100000
namespace Go.Proofs.Ytmgnpfapigenpaa
open Go.ChangeShapes Go.WideShapes Go.ChangeAt Go.RowKit Go.Cln
namespace hd
open hc hx hy hz tb tc td ha
set_option linter.unusedVariables false
noncomputable section
def P14ii (KF : KT') (D : DT) (K : List Int) (n c : Nat) (M : List Int) (m d : Nat) : Prop := ((((True ∧ b11 KF (Kw K n) n) ∧ decide (64 + m ≤ 64) = false) ∧ (0 + m ≤ M.length ∧ 0 + 64 ≤ (xl (KF (Kw K n)) 54).length ∧ (64 + m) * 1 ≤ mostBytes ∧ 64 + m ≤ mostBytes)) ∧ b22 D (IN KF (Kw K n) M m) (64 + m)) ∧ b22 D (xl (KF (Kw K n)) 92 ++ ot1 (D (IN KF (Kw K n) M m))) 84
def h14ii (K : List Int) (n c : Nat) (M : List Int) (m d : Nat) : List (Option Ob) := [oM K, oM M] ++ ha.nn 339
theorem N14ii (KF : KT') (D : DT) (A : AT) (E : ET) (K : List Int) (n c : Nat) (M : List Int) (m d : Nat) : (r14 KF D A E (vs 0 n c) (vs 1 m d) [oM K, oM M] o14).map (fun r => (r.1, r.2.obl, r.2.next, keepL ([true, true] ++ List.replicate 339 false) r.2.heap.get 0)) = some (outV (tgD KF D (Kw K n) (IN KF (Kw K n) M m)), P14ii KF D K n c M m d, (h14ii K n c M m d).length, h14ii K n c M m d) := by kernel_rfl
theorem t14ii (K : List Int) (n c : Nat) (M : List Int) (m d : Nat) (hn : n = K.length) (h0 : 0 < n) (h1 : n ≤ 1000) (hm : m = M.length) (g0 : 0 < m) (g1 : m ≤ 1000) : CallOk Try.prog 14 [(vs 0 n c), (vs 1 m d)] (smSt 2 [oM K, oM M] []) (outV (tgN K M)) (smSt 2 (h14ii K n c M m d) []) := by
  have eX : (IN kb (Kw K n) M m) = xl (kb K) 54 ++ M := by unfold IN; rw [Kw_eq hn, hm, List.take_length]; exact List.take_of_length_le (by rw [List.length_append, xl_len]; omega)
  have hp : P14ii kb shaN K n c M m d := by
    refine ⟨⟨⟨⟨⟨trivial, ⟨rfl, by rw [Kw_eq hn]; exact hn, h0, by omega⟩⟩, by rw [decide_eq_false_iff_not]; omega⟩, by omega, by rw [xl_len]; omega, by unfold mostBytes; omega, by unfold mostBytes; omega⟩, rfl, ?_, by omega, by omega⟩, rfl, ?_, by omega, by omega⟩
    · rw [eX, List.length_append, xl_len]; omega
    · rw [List.length_append, xl_len, ot_len]
  have := frame_by sw.pg (KT_ok kb shaN AB DS) _ (N14ii kb shaN AB DS K n c M m d) hp (by rfl) rfl
  rw [eX, Kw_eq hn] at this
  exact this
def P14in (KF : KT') (D : DT) (K : List Int) (n c : Nat) : Prop := ((True ∧ b11 KF (Kw K n) n) ∧ b22 D (xl (KF (Kw K n)) 54) 64) ∧ b22 D (xl (KF (Kw K n)) 92 ++ ot1 (D (xl (KF (Kw K n)) 54))) 84
def h14in (K : List Int) (n c : Nat) : List (Option Ob) := [oM K] ++ ha.nn 338
theorem N14in (KF : KT') (D : DT) (A : AT) (E : ET) (K : List Int) (n c : Nat) : (r14 KF D A E (vs 0 n c) (.slice none 0 0) [oM K] []).map (fun r => (r.1, r.2.obl, r.2.next, keepL ([true] ++ List.replicate 338 false) r.2.heap.get 0)) = some (outV (tgD KF D (Kw K n) (xl (KF (Kw K n)) 54)), P14in KF D K n c, (h14in K n c).length, h14in K n c) := by kernel_rfl
theorem t14in (K : List Int) (n c : Nat) (hn : n = K.length) (h0 : 0 < n) (h1 : n ≤ 1000) : CallOk Try.prog 14 [(vs 0 n c), (.slice none 0 0)] (smSt 1 [oM K] []) (outV (tgN K [])) (smSt 1 (h14in K n c) []) := by
  have eX : (xl (kb (Kw K n)) 54) = xl (kb K) 54 ++ [] := by rw [List.append_nil, Kw_eq hn]
  have hp : P14in kb shaN K n c := by
    refine ⟨⟨⟨trivial, ⟨rfl, by rw [Kw_eq hn]; exact hn, h0, by omega⟩⟩, rfl, ?_, by omega, by omega⟩, rfl, ?_, by omega, by omega⟩
    · rw [xl_len]
    · rw [List.length_append, xl_len, ot_len]
  have := frame_by sw.pg (KT_ok kb shaN AB DS) _ (N14in kb shaN AB DS K n c) hp (by rfl) rfl
  rw [eX, Kw_eq hn] at this
  exact this
def P14iz (KF : KT') (D : DT) (K : List Int) (n c : Nat) (d : Nat) : Prop := ((True ∧ b11 KF (Kw K n) n) ∧ b22 D (xl (KF (Kw K n)) 54) 64) ∧ b22 D (xl (KF (Kw K n)) 92 ++ ot1 (D (xl (KF (Kw K n)) 54))) 84
def h14iz (K : List Int) (n c : Nat) (d : Nat) : List (Option Ob) := [oM K, none] ++ ha.nn 338
theorem N14iz (KF : KT') (D : DT) (A : AT) (E : ET) (K : List Int) (n c : Nat) (d : Nat) : (r14 KF D A E (vs 0 n c) (vs 1 0 d) [oM K, none] []).map (fun r => (r.1, r.2.obl, r.2.next, keepL ([true, false] ++ List.replicate 338 false) r.2.heap.get 0)) = some (outV (tgD KF D (Kw K n) (xl (KF (Kw K n)) 54)), P14iz KF D K n c d, (h14iz K n c d).length, h14iz K n c d) := by kernel_rfl
theorem t14iz (K : List Int) (n c : Nat) (d : Nat) (hn : n = K.length) (h0 : 0 < n) (h1 : n ≤ 1000) : CallOk Try.prog 14 [(vs 0 n c), (vs 1 0 d)] (smSt 2 [oM K, none] []) (outV (tgN K [])) (smSt 2 (h14iz K n c d) []) := by
  have eX : (xl (kb (Kw K n)) 54) = xl (kb K) 54 ++ [] := by rw [List.append_nil, Kw_eq hn]
  have hp : P14iz kb shaN K n c d := by
    refine ⟨⟨⟨trivial, ⟨rfl, by rw [Kw_eq hn]; exact hn, h0, by omega⟩⟩, rfl, ?_, by omega, by omega⟩, rfl, ?_, by omega, by omega⟩
    · rw [xl_len]
    · rw [List.length_append, xl_len, ot_len]
  have := frame_by sw.pg (KT_ok kb shaN AB DS) _ (N14iz kb shaN AB DS K n c d) hp (by rfl) rfl
  rw [eX, Kw_eq hn] at this
  exact this
end
end hd
end Go.Proofs.Ytmgnpfapigenpaa
