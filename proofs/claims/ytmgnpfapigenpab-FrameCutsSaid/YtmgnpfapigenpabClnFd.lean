/- Read off the code by the clean reading. -/
import Derived.Test.YtmgnpfapigenpabClnFc
set_option linter.unusedVariables false
set_option linter.unusedSimpArgs false
set_option linter.deprecated false
set_option maxRecDepth 100000
namespace Go.Proofs.Ytmgnpfapigenpab
open Go.ChangeShapes Go.WideShapes Go.ChangeAt Go.RowKit Go.Cln
namespace fc
open fr
set_option linter.unusedVariables false
noncomputable section
theorem byt_take {L : List Int} (h : Byt L) (n : Nat) : Byt (L.take n) := fun x hx => h x (List.mem_of_mem_take hx)
def hE (L : List Int) : List (Option Ob) := some (Ob.cells (.ints .u8 L) 5) :: List.replicate 4 none
theorem err9 (L : List Int) (n c : Nat) (hB : Byt L) (hn : n = L.length) (hc : n ≤ c) (hm : n ≤ 2000) (h : ¬ okF L n) : CallOk Try.prog 9 [.slice (some ⟨0, 0, some 1⟩) n c] (smSt 1 (hI L) []) (vE (eF L n)) (smSt 1 (hE L) []) := by
  have up : ∀ {e : Int} {k j : Nat}, CallOk Try.prog 9 [.slice (some ⟨0, 0, some 1⟩) n c] (smSt 1 (hI L) []) (vE e) (smSt 1 (some (Ob.cells (.ints .u8 L) 5) :: List.replicate k none) []) → k + j = 4 → CallOk Try.prog 9 [.slice (some ⟨0, 0, some 1⟩) n c] (smSt 1 (hI L) []) (vE e) (smSt 1 (hE L) []) := fun {e k j} hk hj => by
    have := hk.pad j (by simp; omega) (by simp [hI]) (by simp [hI])
    have e2 : (some (Ob.cells (.ints .u8 L) 5) :: List.replicate k none) ++ List.replicate j none = hE L := by
      rw [List.cons_append, List.replicate_append_replicate, hj]; rfl
    rw [e2] at this; exact this
  by_cases h1 : n < 19
  · have e : eF L n = 0 := by unfold eF; rw [if_pos h1]
    rw [e]
    exact up (k := 0) (j := 4) (frame_by pg (KM_ok mkB szf kdf) _ (runNshort mkB szf kdf L n c) (pNshort_ok h1) (by rfl) rfl) rfl
  · have hl : (L.take 19).length = 19 := by rw [List.length_take]; omega
    have hb := byt_take hB 19
    have es := szt L
    have ek := kdt L
    have h19 : 19 ≤ n := by omega
    cases h2 : mkB (L.take 19) with
    | true =>
      have e : eF L n = 270 := by unfold eF; rw [if_neg h1, if_pos h2]
      rw [e]
      exact up (k := 2) (j := 2) (frame_by pg (KM_ok mkB szf kdf) _ (runNmark mkB szf kdf L n c) (pNmark_ok hl hb hn hc h19 hm h2) (by rfl) rfl) rfl
    | false =>
      have e1 : eF L n = if sz L < 19 ∨ 512 < sz L then 271 else if L.getD 18 0 < 1 ∨ 4 < L.getD 18 0 then 272 else 0 := by unfold eF; rw [if_neg h1, h2]; simp
      by_cases h3 : sz L < 19
      · rw [e1, if_pos (.inl h3)]
        exact up (k := 3) (j := 1) (frame_by pg (KM_ok mkB szf kdf) _ (runNszlo mkB szf kdf L n c) (pNszlo_ok hl hb hn hc h19 hm h2 (by rw [es]; exact h3)) (by rfl) rfl) rfl
      · by_cases h4 : 512 < sz L
        · rw [e1, if_pos (.inr h4)]
          exact up (k := 3) (j := 1) (frame_by pg (KM_ok mkB szf kdf) _ (runNszhi mkB szf kdf L n c) (pNszhi_ok hl hb hn hc h19 hm h2 (by rw [es]; exact h4)) (by rfl) rfl) rfl
        · rw [e1, if_neg (by omega)]
          by_cases h5 : L.getD 18 0 < 1
          · rw [if_pos (.inl h5)]
            exact up (k := 4) (j := 0) (frame_by pg (KM_ok mkB szf kdf) _ (runNklo mkB szf kdf L n c) (pNklo_ok hl hb hn hc h19 hm h2 (by rw [es]; omega) (by rw [es]; omega) (by rw [ek]; exact h5)) (by rfl) rfl) rfl
          · by_cases h6 : 4 < L.getD 18 0
            · rw [if_pos (.inr h6)]
              exact up (k := 4) (j := 0) (frame_by pg (KM_ok mkB szf kdf) _ (runNkhi mkB szf kdf L n c) (pNkhi_ok hl hb hn hc h19 hm h2 (by rw [es]; omega) (by rw [es]; omega) (by rw [ek]; exact h6)) (by rfl) rfl) rfl
            · rw [if_neg (by omega)]
              have h7 : (n : Int) < sz L := by
                refine Int.not_le.1 fun h7 => h ⟨h19, h2, by omega, by omega, by omega, by omega, h7⟩
              exact up (k := 4) (j := 0) (frame_by pg (KM_ok mkB szf kdf) _ (runNcut mkB szf kdf L n c) (pNcut_ok hl hb hn hc h19 hm h2 (by rw [es]; omega) (by rw [es]; omega) (by rw [ek]; omega) (by rw [ek]; omega) (by rw [es]; exact h7)) (by rfl) rfl) rfl
def bdy (L : List Int) : List Int := (L.drop 19).take ((sz L).toNat - 19)
def vO (L : List Int) (b : Value) : Value := .tuple #[.int .i64 (L.getD 18 0), b, .int .i64 (sz L), .int .i64 0]
def hO (L B : List Int) : List (Option Ob) := some (Ob.cells (.ints .u8 L) 5) :: (List.replicate 5 none ++ [some (Ob.cells (.ints .u8 B) 5)])
def hZ (L : List Int) : List (Option Ob) := some (Ob.cells (.ints .u8 L) 5) :: List.replicate 5 none
theorem ok9 (L : List Int) (n c : Nat) (hB : Byt L) (hn : n = L.length) (hc : n ≤ c) (hm : n ≤ 2000) (h : okF L n) (h19 : 19 < sz L) : CallOk Try.prog 9 [.slice (some ⟨0, 0, some 1⟩) n c] (smSt 1 (hI L) [])
    (vO L (.slice (some ⟨6, 0, some 1⟩) ((sz L).toNat - 19) ((sz L).toNat - 19))) (smSt 1 (hO L (bdy L)) []) := by
  obtain ⟨g1, g2, g3, g4, g5, g6, g7⟩ := h
  have hl : (L.take 19).length = 19 := by rw [List.length_take]; omega
  have es := szt L
  have ek := kdt L
  have := frame_by pg (KM_ok mkB szf kdf) _ (runNok1 mkB szf kdf L n c) (pNok1_ok hl (byt_take hB 19) hn hc g1 hm g2 (by rw [es]; exact h19) (by rw [es]; exact g4) (by rw [ek]; exact g5) (by rw [ek]; exact g6) (by rw [es]; exact g7)) (by rfl) rfl
  unfold vK bl bd at this
  rw [es, ek, Nat.zero_add, List.drop_zero, List.take_zero, List.nil_append] at this
  exact this
theorem ok9z (L : List Int) (n c : Nat) (hB : Byt L) (hn : n = L.length) (hc : n ≤ c) (hm : n ≤ 2000) (h : okF L n) (h19 : sz L = 19) : CallOk Try.prog 9 [.slice (some ⟨0, 0, some 1⟩) n c] (smSt 1 (hI L) [])
    (vO L (.slice (some ⟨5, 0, none⟩) 0 0)) (smSt 1 (hZ L) []) := by
  obtain ⟨g1, g2, g3, g4, g5, g6, g7⟩ := h
  have hl : (L.take 19).length = 19 := by rw [List.length_take]; omega
  have es := szt L
  have ek := kdt L
  have := frame_by pg (KM_ok mkB szf kdf) _ (runNok0 mkB szf kdf L n c) (pNok0_ok hl (byt_take hB 19) hn hc g1 hm g2 (by rw [es]; exact h19) (by rw [ek]; exact g5) (by rw [ek]; exact g6)) (by rfl) rfl
  have e0 : bd szf L = 0 := by unfold bd; rw [es, h19]; rfl
  unfold vK at this
  rw [es, ek, e0] at this
  exact this
theorem pm10_of {L : List Int} {n : Nat} (hn : n = L.length) (h19 : 19 ≤ n) : ∀ i, i ≤ 16 → (∀ j, j < i → L.getD j 0 = 255) → pm10 L n i
  | 0, _, _ => ⟨trivial, by rw [decide_eq_false_iff_not]; omega⟩
  | i + 1, h1, h2 => ⟨⟨⟨pm10_of hn h19 i (by omega) fun j hj => h2 j (by omega), by omega⟩, by omega⟩, by rw [h2 i (by omega)]; rfl⟩
theorem q16_of {L : List Int} {n : Nat} (hB : Byt L) (hn : n = L.length) (h19 : 19 ≤ n) (h : ∀ j, j < 16 → L.getD j 0 = 255) : q16 L n := by
  have b1 := byt_getD hB 16
  have b2 := byt_getD hB 17
  refine ⟨⟨⟨⟨⟨⟨⟨⟨pm10_of hn h19 16 (by omega) h, by omega⟩, by omega⟩, ?_⟩, ?_⟩, by omega⟩, by omega⟩, ?_⟩, ?_⟩
  · rw [IntKind.wrap_i64]; omega
  · rw [IntKind.wrap_i64]; omega
  · rw [IntKind.wrap_i64]; omega
  · unfold sz; rw [IntKind.wrap_i64]; omega
theorem err10 (L : List Int) (n c : Nat) (hB : Byt L) (hn : n = L.length) (h : ¬ okF L n) : CallOk Try.prog 10 [.slice (some ⟨0, 0, none⟩) n c] (smSt 1 (hI L) []) (vE (eF L n)) (smSt 1 (hI L) []) := by
  by_cases h1 : n < 19
  · have e : eF L n = 0 := by unfold eF; rw [if_pos h1]
    rw [e]
    exact frame_by pg K0_ok _ (run10s L n c) ⟨trivial, by rw [decide_eq_true_eq]; omega⟩ (by rfl) rfl
  · have h19 : 19 ≤ n := by omega
    have b3 := byt_getD hB 18
    cases h2 : mkB (L.take 19) with
    | true =>
      have e : eF L n = 270 := by unfold eF; rw [if_neg h1, if_pos h2]
      obtain ⟨i, g1, g2, g3⟩ := mk_true h2
      rw [tk19 L (by omega)] at g3
      rw [e]
      exact frame_by pg K0_ok _ (kAll L n c i g1) ⟨⟨⟨pm10_of hn h19 i (by omega) fun j hj => by rw [← tk19 L (show j < 19 by omega)]; exact g2 j hj, by omega⟩, by omega⟩, by simpa using g3⟩ (by rfl) rfl
    | false =>
      have hmk : ∀ j, j < 16 → L.getD j 0 = 255 := fun j hj => by rw [← tk19 L (show j < 19 by omega)]; exact mk_false h2 j hj
      have hq := q16_of hB hn h19 hmk
      have e1 : eF L n = if sz L < 19 ∨ 512 < sz L then 271 else if L.getD 18 0 < 1 ∨ 4 < L.getD 18 0 then 272 else 0 := by unfold eF; rw [if_neg h1, h2]; simp
      by_cases h3 : sz L < 19
      · rw [e1, if_pos (.inl h3)]
        exact frame_by pg K0_ok _ (run10a L n c) ⟨hq, by rw [decide_eq_true_eq]; exact h3⟩ (by rfl) rfl
      · have d3 : decide (sz L < 19) = false := by rw [decide_eq_false_iff_not]; exact h3
        by_cases h4 : 512 < sz L
        · rw [e1, if_pos (.inr h4)]
          exact frame_by pg K0_ok _ (run10b L n c) ⟨⟨hq, d3⟩, by rw [decide_eq_true_eq]; exact h4⟩ (by rfl) rfl
        · have d4 : decide (sz L > 512) = false := by rw [decide_eq_false_iff_not]; exact h4
          have hk : qk L n := ⟨⟨⟨⟨hq, d3⟩, d4⟩, by omega⟩, by omega⟩
          rw [e1, if_neg (by omega)]
          by_cases h5 : L.getD 18 0 < 1
          · rw [if_pos (.inl h5)]
            exact frame_by pg K0_ok _ (run10c L n c) ⟨hk, by rw [decide_eq_true_eq]; exact h5⟩ (by rfl) rfl
          · have hk2 : qk2 L n := ⟨⟨⟨hk, by rw [decide_eq_false_iff_not]; exact h5⟩, by omega⟩, by omega⟩
            by_cases h6 : 4 < L.getD 18 0
            · rw [if_pos (.inr h6)]
              exact frame_by pg K0_ok _ (run10d L n c) ⟨hk2, by rw [decide_eq_true_eq]; exact h6⟩ (by rfl) rfl
            · rw [if_neg (by omega)]
              have h7 : (n : Int) < sz L := by
                refine Int.not_le.1 fun h7 => h ⟨h19, h2, by omega, by omega, by omega, by omega, h7⟩
              exact frame_by pg K0_ok _ (run10e L n c) ⟨⟨hk2, by rw [decide_eq_false_iff_not]; exact h6⟩, by rw [decide_eq_true_eq]; exact h7⟩ (by rfl) rfl
theorem ok10 (L : List Int) (n c : Nat) (hB : Byt L) (hn : n = L.length) (hc : n ≤ c) (h : okF L n) : CallOk Try.prog 10 [.slice (some ⟨0, 0, none⟩) n c] (smSt 1 (hI L) [])
    (vO L (.slice (some ⟨0, 19, none⟩) ((sz L).toNat - 19) (c - 19))) (smSt 1 (hI L) []) := by
  obtain ⟨h19, h2, g3, g4, g5, g6, g7⟩ := h
  have b3 := byt_getD hB 18
  have hmk : ∀ j, j < 16 → L.getD j 0 = 255 := fun j hj => by rw [← tk19 L (show j < 19 by omega)]; exact mk_false h2 j hj
  have hq := q16_of hB hn h19 hmk
  have hk : qk L n := ⟨⟨⟨⟨hq, by rw [decide_eq_false_iff_not]; omega⟩, by rw [decide_eq_false_iff_not]; omega⟩, by omega⟩, by omega⟩
  have hk2 : qk2 L n := ⟨⟨⟨hk, by rw [decide_eq_false_iff_not]; omega⟩, by omega⟩, by omega⟩
  exact frame_by pg K0_ok _ (run10f L n c) ⟨⟨⟨⟨⟨⟨hk2, by rw [decide_eq_false_iff_not]; omega⟩, by rw [decide_eq_false_iff_not]; omega⟩, by omega⟩, by omega⟩, by rw [IntKind.wrap_i64]; omega⟩, by unfold sl; omega⟩ (by rfl) rfl
end
end fc
end Go.Proofs.Ytmgnpfapigenpab
namespace Go.Proofs.Ytmgnpfapigenpab
open Go.ChangeShapes Go.WideShapes Go.ChangeAt Go.RowKit Go.Cln
namespace fc
open fr
set_option linter.unusedVariables false
noncomputable section
abbrev TE := List Int → Nat → Int
/-- both Cuts, told: the trust says which way they go -/
def FC (EC : TE) (f : FuncId) (args : List Value) (s : St) : Option (Inst × Nat) := if f == 9 then match args with
  | [.slice (some ⟨b, o, some 1⟩) n c] => match s.heap.get b with
    | some (.cells (.ints .u8 L) _) => match s.orc with
      | some false :: _ => some (⟨[(b, o)], 1, hI ((L.drop o).take n), [.slice (some ⟨0, 0, some 1⟩) n c], vE (EC ((L.drop o).take n) n), hE ((L.drop o).take n), EC = eF ∧ Byt ((L.drop o).take n) ∧ n = ((L.drop o).take n).length ∧ n ≤ c ∧ n ≤ 2000 ∧ ¬ okF ((L.drop o).take n) n⟩, 1)
      | some true :: some true :: _ => some (⟨[(b, o)], 1, hI ((L.drop o).take n), [.slice (some ⟨0, 0, some 1⟩) n c], vO ((L.drop o).take n) (.slice (some ⟨6, 0, some 1⟩) ((sz ((L.drop o).take n)).toNat - 19) ((sz ((L.drop o).take n)).toNat - 19)), hO ((L.drop o).take n) (bdy ((L.drop o).take n)),
          Byt ((L.drop o).take n) ∧ n = ((L.drop o).take n).length ∧ n ≤ c ∧ n ≤ 2000 ∧ okF ((L.drop o).take n) n ∧ 19 < sz ((L.drop o).take n)⟩, 2)
      | some true :: some false :: _ => some (⟨[(b, o)], 1, hI ((L.drop o).take n), [.slice (some ⟨0, 0, some 1⟩) n c], vO ((L.drop o).take n) (.slice (some ⟨5, 0, none⟩) 0 0), hZ ((L.drop o).take n),
          Byt ((L.drop o).take n) ∧ n = ((L.drop o).take n).length ∧ n ≤ c ∧ n ≤ 2000 ∧ okF ((L.drop o).take n) n ∧ sz ((L.drop o).take n) = 19⟩, 2)
      | _ => none
    | _ => none
  | _ => none else if f == 10 then match args with
  | [.slice (some ⟨b, o, none⟩) n c] => match s.heap.get b with
    | some (.cells (.ints .u8 L) _) => match s.orc with
      | some false :: _ => some (⟨[(b, o)], 1, hI ((L.drop o).take n), [.slice (some ⟨0, 0, none⟩) n c], vE (EC ((L.drop o).take n) n), hI ((L.drop o).take n), EC = eF ∧ Byt ((L.drop o).take n) ∧ n = ((L.drop o).take n).length ∧ ¬ okF ((L.drop o).take n) n⟩, 1)
      | some true :: _ => some (⟨[(b, o)], 1, hI ((L.drop o).take n), [.slice (some ⟨0, 0, none⟩) n c], vO ((L.drop o).take n) (.slice (some ⟨0, 19, none⟩) ((sz ((L.drop o).take n)).toNat - 19) (c - 19)), hI ((L.drop o).take n),
          Byt ((L.drop o).take n) ∧ n = ((L.drop o).take n).length ∧ n ≤ c ∧ okF ((L.drop o).take n) n⟩, 1)
      | _ => none
    | _ => none
  | _ => none else none
theorem FC_ok (EC : TE) (f : FuncId) (args : List Value) (s : St) (i : Inst) (k : Nat) (h : FC EC f args s = some (i, k)) : Fits s i args ∧ (i.ask → CallOk Try.prog f i.args i.s0 i.val i.s1) := by
  unfold FC at h
  split at h
  · rename_i hf
    have hf' : f = 9 := by simpa using hf
    subst hf'
    split at h
    · rename_i b o n c
      split at h
      · rename_i L tb hb
        split at h
        · cases h
          refine ⟨fitG hb rfl rfl rfl, fun ha => ?_⟩
          obtain ⟨rfl, q1, q2, q3, q4, q5⟩ := ha
          exact err9 _ n c q1 q2 q3 q4 q5
        · cases h
          refine ⟨fitG hb rfl rfl rfl, fun ha => ?_⟩
          obtain ⟨q1, q2, q3, q4, q5, q6⟩ := ha
          exact ok9 _ n c q1 q2 q3 q4 q5 q6
        · cases h
          refine ⟨fitG hb rfl rfl rfl, fun ha => ?_⟩
          obtain ⟨q1, q2, q3, q4, q5, q6⟩ := ha
          exact ok9z _ n c q1 q2 q3 q4 q5 q6
        · cases h
      · cases h
    · cases h
  · split at h
    · rename_i hf
      have hf' : f = 10 := by simpa using hf
      subst hf'
      split at h
      · rename_i b o n c
        split at h
        · rename_i L tb hb
          split at h
          · cases h
            refine ⟨fitG hb rfl rfl rfl, fun ha => ?_⟩
            obtain ⟨rfl, q1, q2, q3⟩ := ha
            exact err10 _ n c q1 q2 q3
          · cases h
            refine ⟨fitG hb rfl rfl rfl, fun ha => ?_⟩
            obtain ⟨q1, q2, q3, q4⟩ := ha
            exact ok10 _ n c q1 q2 q3 q4
          · cases h
        · cases h
      · cases h
    · cases h
end
end fc
end Go.Proofs.Ytmgnpfapigenpab
