/- Read off the code by the clean reading. -/
import Derived.Test.YteknepfcbpoooabClnVc
set_option linter.unusedVariables false
set_option linter.unusedSimpArgs false
set_option linter.deprecated false
set_option maxRecDepth 100000
namespace Go.Proofs.Yteknepfcbpoooab
open Go.ChangeShapes Go.WideShapes Go.ChangeAt Go.RowKit Go.Cln
namespace sp
open sd
open pa (rawN)
open pc (RT)
set_option linter.unusedVariables false
noncomputable section
theorem wsum_app : ∀ (l r : List Int), wsum (l ++ r) = wsum l + wsum (if (l.length : Int) % 2 = 0 then r else 0 :: r)
  | [], r => by simp [wsum]
  | [a], r => by
    cases r with
    | nil => simp [wsum]
    | cons b r => simp [wsum]; omega
  | a :: b :: l, r => by
    have := wsum_app l r
    have e : (((a :: b :: l).length : Nat) : Int) % 2 = (l.length : Int) % 2 := by simp only [List.length_cons]; omega
    rw [e]
    simp only [List.cons_append, wsum, this]; omega
/-- what is known of a round's call -/
structure At (x : Acts) (n k : Nat) : Prop where
  lt : k < n
  few : n ≤ 30
  short : x.m (ix k) ≤ 100
  len : (rowx x k).length = x.m (ix k)
  byt : Byt (rowx x k)
  mem : x.m (ix k) = 0 ∨ 0 + x.m (ix k) ≤ (x.D (x.Q (ix k))).length
theorem At.of {x : Acts} {n k : Nat} (h : x.Ok n) (hk : k < n) (hn : n ≤ 30) (hm : x.m k ≤ 100) : At x n k := by
  have e : rowx x k = x.by k := by unfold rowx Acts.by; rw [ix_eq, List.drop_zero]
  have hl := h.len k hk
  refine ⟨hk, hn, by rw [ix_eq]; exact hm, by rw [e, ix_eq]; exact hl, by rw [e]; exact h.byte k hk, ?_⟩
  unfold Acts.by at hl
  rw [List.length_take] at hl
  rw [ix_eq]; omega
structure Side (A : Sd) (M : List Int) (K : Nat) : Prop where
  tot : A.t = wsum M
  size : A.s = (M.length : Int)
  byt : Byt M
  len : M.length ≤ K
structure Full (A : Sd) (M : List Int) : Prop where
  a : A.a = M.length
  take : A.L.take A.a = M
  le : A.a ≤ A.L.length
  pos : 0 < A.a
theorem Full.m1 {A : Sd} {M : List Int} (h : Full A M) : m1 A = M := by unfold sp.m1; rw [List.drop_zero]; exact h.take
theorem Side.up {A : Sd} {M : List Int} {K K' : Nat} (h : Side A M K) (hK : K ≤ K') : Side A M K' := ⟨h.tot, h.size, h.byt, Nat.le_trans h.len hK⟩
theorem Side.any {A : Sd} {M : List Int} {K : Nat} (h : Side A M K) (L : List Int) (a q : Nat) : Side ⟨A.t, A.s, L, a, q⟩ M K := ⟨h.tot, h.size, h.byt, h.len⟩
theorem Full.any {A : Sd} {M : List Int} (h : Full A M) (t s : Int) : Full ⟨t, s, A.L, A.a, A.q⟩ M := ⟨h.a, h.take, h.le, h.pos⟩
theorem Side.bound {A : Sd} {M : List Int} {K : Nat} (h : Side A M K) (hK : K ≤ 3100) : 0 ≤ A.t ∧ A.t ≤ 1000000000 ∧ 0 ≤ A.s ∧ A.s ≤ 3100 := by
  have := wsum_bound M h.byt
  have := h.len
  rw [h.tot, h.size]; omega
theorem cS_of {A O : Sd} {M : List Int} {K : Nat} (h : Side A M K) (e : m1 O = M) : (sc.car A.t != rawN (m1 O)) = false := by
  rw [e, h.tot]; unfold rawN; exact bne_self_eq_false _
theorem cS_nil {A : Sd} {K : Nat} (h : Side A [] K) : (sc.car A.t != rawN []) = false := by
  rw [h.tot]; unfold rawN; exact bne_self_eq_false _
theorem cD_of {A O : Sd} {M : List Int} {K : Nat} (h : Side A M K) (e : Full O M) : (A.s != nI O.a) = false := by
  rw [h.size, e.a]; exact bne_self_eq_false _
theorem cD_nil {A : Sd} {K : Nat} (h : Side A [] K) : (A.s != 0) = false := by
  rw [h.size]; rfl
theorem q13_of {O : Sd} {M : List Int} (h : Full O M) (hB : Byt M) (hl : M.length ≤ 3100) : q13 rawN (m1 O) O.a := by
  have hp := h.pos
  have ha := h.a
  refine ⟨rfl, ?_, ?_, hp, by omega⟩
  · rw [h.m1]; exact hB
  · rw [h.m1]; exact ha
theorem wf_eq {x : Acts} {n k : Nat} (h : At x n k) : wf x k = rowx x k := by
  unfold wf; rw [List.drop_zero]; exact List.take_of_length_le (by rw [h.len]; omega)
theorem row_nil {x : Acts} {n k : Nat} (h : At x n k) (h0 : x.m (ix k) = 0) : rowx x k = [] := List.eq_nil_of_length_eq_zero (by rw [h.len]; exact h0)
theorem wz_eq {x : Acts} {n k : Nat} (h : At x n k) (h0 : x.m (ix k) = 0) : wz x k = rowx x k := by
  unfold wz; rw [h0, row_nil h h0]; rfl
theorem a27 {x : Acts} {n k : Nat} {A : Sd} {M w : List Int} {K c : Nat} (h : At x n k) (hA : Side A M K) (hK : K ≤ 3100) (e : w = rowx x k) (hc : 0 + x.m (ix k) ≤ c) : ask27 A w (0 + x.m (ix k)) c := by
  have hb := hA.bound hK
  have hs := h.short
  subst e
  exact ⟨h.byt, by rw [h.len]; omega, by omega, by omega, by omega, hc⟩
theorem str_of {x : Acts} {k : Nat} {w : List Int} (e : w = rowx x k) : (!(beqB (bytesI w).toList (bytesI (rowx x k)).toList)) = false := by
  rw [beqB_of e]; rfl
theorem side_put {x : Acts} {n k : Nat} {A : Sd} {M w L : List Int} {a q : Nat} {K : Nat} (h : At x n k) (hA : Side A M K) (e : w = rowx x k) : Side ⟨upd A.t A.s w, A.s + nI (0 + x.m (ix k)), L, a, q⟩ (M ++ rowx x k) (K + 100) := by
  have hs := h.short
  have hl := h.len
  have hM := hA.len
  refine ⟨?_, ?_, fun y hy => ?_, by rw [List.length_append]; omega⟩
  · show upd A.t A.s w = wsum (M ++ rowx x k)
    rw [wsum_app, e]; unfold upd; rw [hA.tot, hA.size]
  · show A.s + nI (0 + x.m (ix k)) = _
    rw [hA.size, List.length_append, hl]; simp only [nI]; omega
  · rcases List.mem_append.1 hy with hy | hy
    · exact hA.byt y hy
    · exact h.byt y hy
theorem full_RF {x : Acts} {n k : Nat} {O : Sd} {M : List Int} {t s : Int} {q : Nat} (h : At x n k) (hO : Full O M) : Full ⟨t, s, List.take (0 + O.a) (List.drop 0 (m1 O)) ++ rowx x k, 0 + O.a + x.m (ix k), q⟩ (M ++ rowx x k) := by
  have hl := h.len
  have ha := hO.a
  have hp := hO.pos
  have e : List.take (0 + O.a) (List.drop 0 (m1 O)) = M := by rw [hO.m1, List.drop_zero]; exact List.take_of_length_le (by omega)
  refine ⟨?_, ?_, ?_, show 0 < 0 + O.a + x.m (ix k) by omega⟩
  · show 0 + O.a + x.m (ix k) = _
    rw [List.length_append]; omega
  · show (List.take (0 + O.a) (List.drop 0 (m1 O)) ++ rowx x k).take (0 + O.a + x.m (ix k)) = _
    rw [e]; exact List.take_of_length_le (by rw [List.length_append]; omega)
  · show 0 + O.a + x.m (ix k) ≤ (List.take (0 + O.a) (List.drop 0 (m1 O)) ++ rowx x k).length
    rw [e, List.length_append]; omega
theorem full_RZ {x : Acts} {n k : Nat} {O : Sd} {M : List Int} {t s : Int} {q : Nat} (h : At x n k) (h0 : x.m (ix k) = 0) (hO : Full O M) : Full ⟨t, s, layI (m1 O) (0 + (0 + O.a)) (rowx x k), 0 + O.a + x.m (ix k), q⟩ (M ++ rowx x k) := by
  have ha := hO.a
  have hp := hO.pos
  have e : layI (m1 O) (0 + (0 + O.a)) (rowx x k) = M := by
    rw [row_nil h h0, hO.m1]
    unfold layI
    simp
  refine ⟨?_, ?_, ?_, show 0 < 0 + O.a + x.m (ix k) by omega⟩
  · show 0 + O.a + x.m (ix k) = _
    rw [row_nil h h0, List.append_nil]; omega
  · show (layI (m1 O) (0 + (0 + O.a)) (rowx x k)).take (0 + O.a + x.m (ix k)) = _
    rw [e, row_nil h h0, List.append_nil]; exact List.take_of_length_le (by omega)
  · show 0 + O.a + x.m (ix k) ≤ (layI (m1 O) (0 + (0 + O.a)) (rowx x k)).length
    rw [e]; omega
theorem full_EF {x : Acts} {n k : Nat} {t s : Int} {q : Nat} (h : At x n k) (h0 : x.m (ix k) ≠ 0) : Full ⟨t, s, rowx x k, 0 + 0 + x.m (ix k), q⟩ ([] ++ rowx x k) := by
  have hl := h.len
  refine ⟨?_, ?_, ?_, show 0 < 0 + 0 + x.m (ix k) by omega⟩
  · show 0 + 0 + x.m (ix k) = _
    rw [List.nil_append]; omega
  · show (rowx x k).take (0 + 0 + x.m (ix k)) = _
    rw [List.nil_append]; exact List.take_of_length_le (by omega)
  · show 0 + 0 + x.m (ix k) ≤ (rowx x k).length
    omega
/-- the loop's head, k rounds on -/
def Good (x : Acts) (n c k : Nat) (t : St) : Prop := ∃ (A B : Sd) (M N : List Int) (v : VF), (∀ i, DeadV (v i)) ∧ Side A M (100 * k) ∧ Side B N (100 * k) ∧
  ((M = [] ∧ N = [] ∧ t = st HEE x n c k A B v) ∨ (Full A M ∧ N = [] ∧ t = st HRE x n c k A B v) ∨ (M = [] ∧ Full B N ∧ t = st HER x n c k A B v) ∨ (Full A M ∧ Full B N ∧ t = st HRR x n c k A B v) ∨ (Full A M ∧ N = M ∧ t = st HSS x n c k A B v))
theorem gEE {x : Acts} {n c k : Nat} {A B : Sd} {v : VF} (hv : ∀ i, DeadV (v i)) (hA : Side A [] (100 * k)) (hB : Side B [] (100 * k)) : Good x n c k (st HEE x n c k A B v) := ⟨A, B, _, _, v, hv, hA, hB, .inl ⟨rfl, rfl, rfl⟩⟩
theorem gRE {x : Acts} {n c k : Nat} {A B : Sd} {M : List Int} {v : VF} (hv : ∀ i, DeadV (v i)) (hA : Side A M (100 * k)) (fA : Full A M) (hB : Side B [] (100 * k)) : Good x n c k (st HRE x n c k A B v) := ⟨A, B, _, _, v, hv, hA, hB, .inr (.inl ⟨fA, rfl, rfl⟩)⟩
theorem gER {x : Acts} {n c k : Nat} {A B : Sd} {N : List Int} {v : VF} (hv : ∀ i, DeadV (v i)) (hA : Side A [] (100 * k)) (hB : Side B N (100 * k)) (fB : Full B N) : Good x n c k (st HER x n c k A B v) := ⟨A, B, _, _, v, hv, hA, hB, .inr (.inr (.inl ⟨rfl, fB, rfl⟩))⟩
theorem gRR {x : Acts} {n c k : Nat} {A B : Sd} {M N : List Int} {v : VF} (hv : ∀ i, DeadV (v i)) (hA : Side A M (100 * k)) (fA : Full A M) (hB : Side B N (100 * k)) (fB : Full B N) : Good x n c k (st HRR x n c k A B v) := ⟨A, B, _, _, v, hv, hA, hB, .inr (.inr (.inr (.inl ⟨fA, fB, rfl⟩)))⟩
theorem gSS {x : Acts} {n c k : Nat} {A B : Sd} {M : List Int} {v : VF} (hv : ∀ i, DeadV (v i)) (hA : Side A M (100 * k)) (fA : Full A M) (hB : Side B M (100 * k)) : Good x n c k (st HSS x n c k A B v) := ⟨A, B, _, _, v, hv, hA, hB, .inr (.inr (.inr (.inr ⟨fA, rfl, rfl⟩)))⟩
theorem w0t {x : Acts} {k : Nat} (h : x.wh (ix k) = 0) : (x.wh (ix k) == 0) = true := by rw [h]; rfl
theorem w0f {x : Acts} {k : Nat} (h : x.wh (ix k) ≠ 0) : (x.wh (ix k) == 0) = false := by simpa using h
theorem w1t {x : Acts} {k : Nat} (h : x.wh (ix k) = 1) : (x.wh (ix k) == 1) = true := by rw [h]; rfl
theorem w1f {x : Acts} {k : Nat} (h : x.wh (ix k) ≠ 1) : (x.wh (ix k) == 1) = false := by simpa using h
theorem fk_of {k : Nat} (h : k < 1000) : fk k := by unfold fk; simp only [nI]; rw [IntKind.wrap_i64]; omega
end
end sp
end Go.Proofs.Yteknepfcbpoooab
namespace Go.Proofs.Yteknepfcbpoooab
open Go.ChangeShapes Go.WideShapes Go.ChangeAt Go.RowKit Go.Cln
namespace sp
open sd
open pa (rawN)
open pc (RT)
set_option linter.unusedVariables false
noncomputable section
theorem wk_of {T : List Value} {f g : Nat → Option Ob} (h : ∀ (b : Nat) (o2 : Ob), g b = some o2 → ∃ o, f b = some o ∧ (o = o2 ∨ ∃ (l l2 : List Value) (t : TypeId), o = .cells (.lit l) t ∧ o2 = .cells (.lit l2) t ∧ ∀ (i : Nat) (x : Value), l2[i]? = some x → ∃ y, l[i]? = some y ∧ (y = x ∨ x = E0 ∧ ∃ a, y = .slice a 0 0)))
    (h01 : ∀ b, b < 2 → g b = f b) : Wk ⟨T, [], Tr.rebuild f 10, 10, 2, [], fun _ => false, True, []⟩ ⟨T, [], Tr.rebuild g 10, 10, 2, [], fun _ => false, True, []⟩ where
  next := rfl
  roB := rfl
  ro := rfl
  hid := rfl
  defers := rfl
  tmps := rfl
  zero := ⟨(by decide : 0 < 10), rfl⟩
  heap b o2 hb := by
    obtain ⟨h1, h2⟩ := heap_at (by omega) hb
    obtain ⟨o, h3, h4⟩ := h b o2 h2
    refine ⟨o, ?_, h4⟩
    show (Tr.rebuild f 10).get b = some o
    rw [Tr.get_rebuild f 10 b (by omega), if_pos h1]; exact h3
  same b hm := by
    have hb : b < 2 := by
      rcases Nat.lt_or_ge b 2 with h | h
      · exact h
      · have : (decide (2 ≤ b) && !([] : List Nat).contains b) = false := hm
        simp at this; omega
    show (Tr.rebuild g 10).get b = (Tr.rebuild f 10).get b
    rw [Tr.get_rebuild f 10 b (by omega), Tr.get_rebuild g 10 b (by omega), if_pos (by omega), if_pos (by omega), h01 b hb]
theorem wk_HH {T : List Value} {x : Acts} {n : Nat} {A B : Sd} {u u2 w w2 : Value} {o8 o9 : Option Ob} (hu : u = u2 ∨ u2 = E0 ∧ ∃ a, u = .slice a 0 0) (hw : w = w2 ∨ w2 = E0 ∧ ∃ a, w = .slice a 0 0) :
    Wk ⟨T, [], Tr.rebuild (HH x n A B u w o8 o9) 10, 10, 2, [], fun _ => false, True, []⟩ ⟨T, [], Tr.rebuild (HH x n A B u2 w2 o8 o9) 10, 10, 2, [], fun _ => false, True, []⟩ := by
  refine wk_of (fun b o2 hb => ?_) (fun b hb => ?_)
  · by_cases h5 : b = 5
    · subst h5
      cases hb
      refine ⟨_, rfl, .inr ⟨_, _, _, rfl, rfl, fun i z hz => ?_⟩⟩
      match i, hz with
      | 0, hz => cases hz; exact ⟨u, rfl, hu⟩
      | 1, hz => cases hz; exact ⟨w, rfl, hw⟩
      | i + 2, hz => simp at hz
    · refine ⟨o2, ?_, .inl rfl⟩
      rw [← hb]
      unfold HH
      split <;> first | rfl | (exfalso; exact h5 rfl)
  · match b, hb with
    | 0, _ => rfl
    | 1, _ => rfl
    | b + 2, hb => omega
theorem zl0 (b : Nat) {z : Nat} (h : z = 0) : zl b z = E0 ∨ E0 = E0 ∧ ∃ a, zl b z = .slice a 0 0 := .inr ⟨rfl, _, by rw [h]; rfl⟩
theorem qEEs0 {x : Acts} {n c k : Nat} {A B : Sd} {M N : List Int} {v : VF} (h : At x n k) (hv : ∀ i, DeadV (v i)) (hA : Side A [] (100 * k)) (hB : Side B [] (100 * k)) (htw : x.tw (ix k) = false) (hw0 : x.wh (ix k) ≠ 0) (hw1 : x.wh (ix k) = 1) :
    ∃ tz, Good x n c (k + 1) tz ∧ ∀ rd, Step Try.prog rd (sE x n c) lb (st HEE x n c k A B v) (fun e t => e = .normal ∧ t = tz) := by
  have hlt := h.lt
  have hfw := h.few
  have hs := h.short
  have hl := h.len
  have hq := h.mem
  have bA := hA.bound (by omega)
  have bB := hB.bound (by omega)
  exact ⟨_, gEE (Vs_dead hv) (hA.up (by omega)) (hB.up (by omega)), fun rd => sEEs0 (R := rawN) rd hv ⟨⟨⟨⟨⟨⟨⟨⟨⟨⟨⟨⟨⟨⟨⟨⟨⟨⟨⟨⟨⟨⟨trivial, (by first | omega | (simp only [nI, decide_eq_true_eq, decide_eq_false_iff_not, mostBytes, List.length_nil, Nat.mul_one]; omega))⟩, (by first | omega | (simp only [nI, decide_eq_true_eq, decide_eq_false_iff_not, mostBytes, List.length_nil, Nat.mul_one]; omega))⟩, (by first | omega | (simp only [nI, decide_eq_true_eq, decide_eq_false_iff_not, mostBytes, List.length_nil, Nat.mul_one]; omega))⟩, htw⟩, (by first | omega | (simp only [nI, decide_eq_true_eq, decide_eq_false_iff_not, mostBytes, List.length_nil, Nat.mul_one]; omega))⟩, (w0f hw0)⟩, (w1t hw1)⟩, (by first | omega | (simp only [nI, decide_eq_true_eq, decide_eq_false_iff_not, mostBytes, List.length_nil, Nat.mul_one]; omega))⟩, rfl⟩, (cS_nil hA)⟩, (cS_nil hA)⟩, (cS_nil hA)⟩, (cS_nil hA)⟩, (cS_nil hA)⟩, (cS_nil hA)⟩, (cS_nil hA)⟩, (cS_nil hA)⟩, (cS_nil hA)⟩, (cS_nil hA)⟩, (cS_nil hA)⟩, (cD_nil hA)⟩, (fk_of (by omega))⟩⟩
theorem qEEs1 {x : Acts} {n c k : Nat} {A B : Sd} {M N : List Int} {v : VF} (h : At x n k) (hv : ∀ i, DeadV (v i)) (hA : Side A [] (100 * k)) (hB : Side B [] (100 * k)) (htw : x.tw (ix k) = true) (hw0 : x.wh (ix k) ≠ 0) (hw1 : x.wh (ix k) = 1) :
    ∃ tz, Good x n c (k + 1) tz ∧ ∀ rd, Step Try.prog rd (sE x n c) lb (st HEE x n c k A B v) (fun e t => e = .normal ∧ t = tz) := by
  have hlt := h.lt
  have hfw := h.few
  have hs := h.short
  have hl := h.len
  have hq := h.mem
  have bA := hA.bound (by omega)
  have bB := hB.bound (by omega)
  exact ⟨_, gEE (Vs_dead hv) (hA.up (by omega)) (hB.up (by omega)), fun rd => sEEs1 (R := rawN) rd hv ⟨⟨⟨⟨⟨⟨⟨⟨⟨⟨⟨⟨⟨⟨⟨⟨⟨⟨⟨⟨⟨⟨trivial, (by first | omega | (simp only [nI, decide_eq_true_eq, decide_eq_false_iff_not, mostBytes, List.length_nil, Nat.mul_one]; omega))⟩, (by first | omega | (simp only [nI, decide_eq_true_eq, decide_eq_false_iff_not, mostBytes, List.length_nil, Nat.mul_one]; omega))⟩, (by first | omega | (simp only [nI, decide_eq_true_eq, decide_eq_false_iff_not, mostBytes, List.length_nil, Nat.mul_one]; omega))⟩, htw⟩, (by first | omega | (simp only [nI, decide_eq_true_eq, decide_eq_false_iff_not, mostBytes, List.length_nil, Nat.mul_one]; omega))⟩, (w0f hw0)⟩, (w1t hw1)⟩, (by first | omega | (simp only [nI, decide_eq_true_eq, decide_eq_false_iff_not, mostBytes, List.length_nil, Nat.mul_one]; omega))⟩, rfl⟩, (cS_nil hB)⟩, (cS_nil hB)⟩, (cS_nil hB)⟩, (cS_nil hB)⟩, (cS_nil hB)⟩, (cS_nil hB)⟩, (cS_nil hB)⟩, (cS_nil hB)⟩, (cS_nil hB)⟩, (cS_nil hB)⟩, (cS_nil hB)⟩, (cD_nil hB)⟩, (fk_of (by omega))⟩⟩
theorem qEEc0 {x : Acts} {n c k : Nat} {A B : Sd} {M N : List Int} {v : VF} (h : At x n k) (hv : ∀ i, DeadV (v i)) (hA : Side A [] (100 * k)) (hB : Side B [] (100 * k)) (htw : x.tw (ix k) = false) (hw0 : x.wh (ix k) ≠ 0) (hw1 : x.wh (ix k) ≠ 1) :
    ∃ tz, Good x n c (k + 1) tz ∧ ∀ rd, Step Try.prog rd (sE x n c) lb (st HEE x n c k A B v) (fun e t => e = .normal ∧ t = tz) := by
  have hlt := h.lt
  have hfw := h.few
  have hs := h.short
  have hl := h.len
  have hq := h.mem
  have bA := hA.bound (by omega)
  have bB := hB.bound (by omega)
  exact ⟨_, gEE (Vc_dead hv) (Side.any (hB.up (by omega)) _ _ _) (hB.up (by omega)), fun rd => sEEc0 (R := rawN) rd hv ⟨⟨⟨⟨⟨⟨⟨⟨trivial, (by first | omega | (simp only [nI, decide_eq_true_eq, decide_eq_false_iff_not, mostBytes, List.length_nil, Nat.mul_one]; omega))⟩, (by first | omega | (simp only [nI, decide_eq_true_eq, decide_eq_false_iff_not, mostBytes, List.length_nil, Nat.mul_one]; omega))⟩, (by first | omega | (simp only [nI, decide_eq_true_eq, decide_eq_false_iff_not, mostBytes, List.length_nil, Nat.mul_one]; omega))⟩, htw⟩, (by first | omega | (simp only [nI, decide_eq_true_eq, decide_eq_false_iff_not, mostBytes, List.length_nil, Nat.mul_one]; omega))⟩, (w0f hw0)⟩, (w1f hw1)⟩, (fk_of (by omega))⟩⟩
theorem qEEc1 {x : Acts} {n c k : Nat} {A B : Sd} {M N : List Int} {v : VF} (h : At x n k) (hv : ∀ i, DeadV (v i)) (hA : Side A [] (100 * k)) (hB : Side B [] (100 * k)) (htw : x.tw (ix k) = true) (hw0 : x.wh (ix k) ≠ 0) (hw1 : x.wh (ix k) ≠ 1) :
    ∃ tz, Good x n c (k + 1) tz ∧ ∀ rd, Step Try.prog rd (sE x n c) lb (st HEE x n c k A B v) (fun e t => e = .normal ∧ t = tz) := by
  have hlt := h.lt
  have hfw := h.few
  have hs := h.short
  have hl := h.len
  have hq := h.mem
  have bA := hA.bound (by omega)
  have bB := hB.bound (by omega)
  exact ⟨_, gEE (Vc_dead hv) (hA.up (by omega)) (Side.any (hA.up (by omega)) _ _ _), fun rd => sEEc1 (R := rawN) rd hv ⟨⟨⟨⟨⟨⟨⟨⟨trivial, (by first | omega | (simp only [nI, decide_eq_true_eq, decide_eq_false_iff_not, mostBytes, List.length_nil, Nat.mul_one]; omega))⟩, (by first | omega | (simp only [nI, decide_eq_true_eq, decide_eq_false_iff_not, mostBytes, List.length_nil, Nat.mul_one]; omega))⟩, (by first | omega | (simp only [nI, decide_eq_true_eq, decide_eq_false_iff_not, mostBytes, List.length_nil, Nat.mul_one]; omega))⟩, htw⟩, (by first | omega | (simp only [nI, decide_eq_true_eq, decide_eq_false_iff_not, mostBytes, List.length_nil, Nat.mul_one]; omega))⟩, (w0f hw0)⟩, (w1f hw1)⟩, (fk_of (by omega))⟩⟩
theorem qEEw10 {x : Acts} {n c k : Nat} {A B : Sd} {M N : List Int} {v : VF} (h : At x n k) (hv : ∀ i, DeadV (v i)) (hA : Side A [] (100 * k)) (hB : Side B [] (100 * k)) (htw : x.tw (ix k) = false) (hw0 : x.wh (ix k) = 0) (h0 : x.m (ix k) ≠ 0) :
    ∃ tz, Good x n c (k + 1) tz ∧ ∀ rd, Step Try.prog rd (sE x n c) lb (st HEE x n c k A B v) (fun e t => e = .normal ∧ t = tz) := by
  have hlt := h.lt
  have hfw := h.few
  have hs := h.short
  have hl := h.len
  have hq := h.mem
  have bA := hA.bound (by omega)
  have bB := hB.bound (by omega)
  exact ⟨_, gRE (Vw1_dead hv) (side_put h hA (wf_eq h)) (full_EF h h0) (hB.up (by omega)), fun rd => sEEw10 (R := rawN) rd hv ⟨⟨⟨⟨⟨⟨⟨⟨⟨⟨⟨⟨⟨⟨⟨⟨⟨trivial, (by first | omega | (simp only [nI, decide_eq_true_eq, decide_eq_false_iff_not, mostBytes, List.length_nil, Nat.mul_one]; omega))⟩, (by first | omega | (simp only [nI, decide_eq_true_eq, decide_eq_false_iff_not, mostBytes, List.length_nil, Nat.mul_one]; omega))⟩, (by first | omega | (simp only [nI, decide_eq_true_eq, decide_eq_false_iff_not, mostBytes, List.length_nil, Nat.mul_one]; omega))⟩, htw⟩, (by first | omega | (simp only [nI, decide_eq_true_eq, decide_eq_false_iff_not, mostBytes, List.length_nil, Nat.mul_one]; omega))⟩, (w0t hw0)⟩, (by first | omega | (simp only [nI, decide_eq_true_eq, decide_eq_false_iff_not, mostBytes, List.length_nil, Nat.mul_one]; omega))⟩, ⟨hq, (by first | omega | (simp only [nI, decide_eq_true_eq, decide_eq_false_iff_not, mostBytes, List.length_nil, Nat.mul_one]; omega))⟩⟩, (a27 h hA (by omega) (wf_eq h) (by omega))⟩, (by first | omega | (simp only [nI, decide_eq_true_eq, decide_eq_false_iff_not, mostBytes, List.length_nil, Nat.mul_one]; omega))⟩, hq⟩, (str_of (wf_eq h))⟩, (fun rd => loopJ hEE jnEE jxEE joEE x n c k _ _ (Vpre v) 0 (rowx x k) (x.m (ix k)) rfl (by omega) (by omega) hl (Vpre_dead hv) rd)⟩, ⟨.inl rfl, Nat.le_refl _⟩⟩, (by first | omega | (simp only [nI, decide_eq_true_eq, decide_eq_false_iff_not, mostBytes, List.length_nil, Nat.mul_one]; omega))⟩, ⟨hq, (by first | omega | (simp only [nI, decide_eq_true_eq, decide_eq_false_iff_not, mostBytes, List.length_nil, Nat.mul_one]; omega))⟩⟩, (fk_of (by omega))⟩⟩
theorem qEEw11 {x : Acts} {n c k : Nat} {A B : Sd} {M N : List Int} {v : VF} (h : At x n k) (hv : ∀ i, DeadV (v i)) (hA : Side A [] (100 * k)) (hB : Side B [] (100 * k)) (htw : x.tw (ix k) = true) (hw0 : x.wh (ix k) = 0) (h0 : x.m (ix k) ≠ 0) :
    ∃ tz, Good x n c (k + 1) tz ∧ ∀ rd, Step Try.prog rd (sE x n c) lb (st HEE x n c k A B v) (fun e t => e = .normal ∧ t = tz) := by
  have hlt := h.lt
  have hfw := h.few
  have hs := h.short
  have hl := h.len
  have hq := h.mem
  have bA := hA.bound (by omega)
  have bB := hB.bound (by omega)
  exact ⟨_, gER (Vw1_dead hv) (hA.up (by omega)) (side_put h hB (wf_eq h)) (full_EF h h0), fun rd => sEEw11 (R := rawN) rd hv ⟨⟨⟨⟨⟨⟨⟨⟨⟨⟨⟨⟨⟨⟨⟨⟨⟨trivial, (by first | omega | (simp only [nI, decide_eq_true_eq, decide_eq_false_iff_not, mostBytes, List.length_nil, Nat.mul_one]; omega))⟩, (by first | omega | (simp only [nI, decide_eq_true_eq, decide_eq_false_iff_not, mostBytes, List.length_nil, Nat.mul_one]; omega))⟩, (by first | omega | (simp only [nI, decide_eq_true_eq, decide_eq_false_iff_not, mostBytes, List.length_nil, Nat.mul_one]; omega))⟩, htw⟩, (by first | omega | (simp only [nI, decide_eq_true_eq, decide_eq_false_iff_not, mostBytes, List.length_nil, Nat.mul_one]; omega))⟩, (w0t hw0)⟩, (by first | omega | (simp only [nI, decide_eq_true_eq, decide_eq_false_iff_not, mostBytes, List.length_nil, Nat.mul_one]; omega))⟩, ⟨hq, (by first | omega | (simp only [nI, decide_eq_true_eq, decide_eq_false_iff_not, mostBytes, List.length_nil, Nat.mul_one]; omega))⟩⟩, (a27 h hB (by omega) (wf_eq h) (by omega))⟩, (by first | omega | (simp only [nI, decide_eq_true_eq, decide_eq_false_iff_not, mostBytes, List.length_nil, Nat.mul_one]; omega))⟩, hq⟩, (str_of (wf_eq h))⟩, (fun rd => loopJ hEE jnEE jxEE joEE x n c k _ _ (Vpre v) 1 (rowx x k) (x.m (ix k)) rfl (by omega) (by omega) hl (Vpre_dead hv) rd)⟩, ⟨.inl rfl, Nat.le_refl _⟩⟩, (by first | omega | (simp only [nI, decide_eq_true_eq, decide_eq_false_iff_not, mostBytes, List.length_nil, Nat.mul_one]; omega))⟩, ⟨hq, (by first | omega | (simp only [nI, decide_eq_true_eq, decide_eq_false_iff_not, mostBytes, List.length_nil, Nat.mul_one]; omega))⟩⟩, (fk_of (by omega))⟩⟩
theorem qEEw00 {x : Acts} {n c k : Nat} {A B : Sd} {M N : List Int} {v : VF} (h : At x n k) (hv : ∀ i, DeadV (v i)) (hA : Side A [] (100 * k)) (hB : Side B [] (100 * k)) (htw : x.tw (ix k) = false) (hw0 : x.wh (ix k) = 0) (h0 : x.m (ix k) = 0) :
    ∃ tz, Good x n c (k + 1) tz ∧ ∀ rd, Step Try.prog rd (sE x n c) lb (st HEE x n c k A B v) (fun e t => e = .normal ∧ t = tz) := by
  have hlt := h.lt
  have hfw := h.few
  have hs := h.short
  have hl := h.len
  have hq := h.mem
  have bA := hA.bound (by omega)
  have bB := hB.bound (by omega)
  exact ⟨_, gEE (Vw0_dead hv) (by have := side_put (L := A.L) (a := A.a) (q := A.q) h hA (wz_eq h h0); rw [row_nil h h0, List.append_nil] at this; exact this) (hB.up (by omega)), fun rd => Step.weaken (t2 := st HEE x n c (k + 1) (⟨upd A.t A.s (wz x k), A.s + nI (0 + x.m (ix k)), A.L, A.a, A.q⟩) B (Vw0 v)) (wk_HH (zl0 8 (by omega)) (.inl rfl)) (sEEw00 (R := rawN) rd hv ⟨⟨⟨⟨⟨⟨⟨⟨⟨⟨⟨⟨⟨⟨⟨⟨⟨trivial, (by first | omega | (simp only [nI, decide_eq_true_eq, decide_eq_false_iff_not, mostBytes, List.length_nil, Nat.mul_one]; omega))⟩, (by first | omega | (simp only [nI, decide_eq_true_eq, decide_eq_false_iff_not, mostBytes, List.length_nil, Nat.mul_one]; omega))⟩, (by first | omega | (simp only [nI, decide_eq_true_eq, decide_eq_false_iff_not, mostBytes, List.length_nil, Nat.mul_one]; omega))⟩, htw⟩, (by first | omega | (simp only [nI, decide_eq_true_eq, decide_eq_false_iff_not, mostBytes, List.length_nil, Nat.mul_one]; omega))⟩, (w0t hw0)⟩, (by first | omega | (simp only [nI, decide_eq_true_eq, decide_eq_false_iff_not, mostBytes, List.length_nil, Nat.mul_one]; omega))⟩, ⟨hq, (by first | omega | (simp only [nI, decide_eq_true_eq, decide_eq_false_iff_not, mostBytes, List.length_nil, Nat.mul_one]; omega))⟩⟩, (a27 h hA (by omega) (wz_eq h h0) (by omega))⟩, (by rw [h0, row_nil h h0]; simp [layI])⟩, hq⟩, (str_of (wz_eq h h0))⟩, (by first | omega | (simp only [nI, decide_eq_true_eq, decide_eq_false_iff_not, mostBytes, List.length_nil, Nat.mul_one]; omega))⟩, ⟨.inl rfl, Nat.le_refl _⟩⟩, (by first | omega | (simp only [nI, decide_eq_true_eq, decide_eq_false_iff_not, mostBytes, List.length_nil, Nat.mul_one]; omega))⟩, ⟨hq, (by first | omega | (simp only [nI, decide_eq_true_eq, decide_eq_false_iff_not, mostBytes, List.length_nil, Nat.mul_one]; omega))⟩⟩, (fk_of (by omega))⟩)⟩
theorem qEEw01 {x : Acts} {n c k : Nat} {A B : Sd} {M N : List Int} {v : VF} (h : At x n k) (hv : ∀ i, DeadV (v i)) (hA : Side A [] (100 * k)) (hB : Side B [] (100 * k)) (htw : x.tw (ix k) = true) (hw0 : x.wh (ix k) = 0) (h0 : x.m (ix k) = 0) :
    ∃ tz, Good x n c (k + 1) tz ∧ ∀ rd, Step Try.prog rd (sE x n c) lb (st HEE x n c k A B v) (fun e t => e = .normal ∧ t = tz) := by
  have hlt := h.lt
  have hfw := h.few
  have hs := h.short
  have hl := h.len
  have hq := h.mem
  have bA := hA.bound (by omega)
  have bB := hB.bound (by omega)
  exact ⟨_, gEE (Vw0_dead hv) (hA.up (by omega)) (by have := side_put (L := B.L) (a := B.a) (q := B.q) h hB (wz_eq h h0); rw [row_nil h h0, List.append_nil] at this; exact this), fun rd => Step.weaken (t2 := st HEE x n c (k + 1) A (⟨upd B.t B.s (wz x k), B.s + nI (0 + x.m (ix k)), B.L, B.a, B.q⟩) (Vw0 v)) (wk_HH (.inl rfl) (zl0 9 (by omega))) (sEEw01 (R := rawN) rd hv ⟨⟨⟨⟨⟨⟨⟨⟨⟨⟨⟨⟨⟨⟨⟨⟨⟨trivial, (by first | omega | (simp only [nI, decide_eq_true_eq, decide_eq_false_iff_not, mostBytes, List.length_nil, Nat.mul_one]; omega))⟩, (by first | omega | (simp only [nI, decide_eq_true_eq, decide_eq_false_iff_not, mostBytes, List.length_nil, Nat.mul_one]; omega))⟩, (by first | omega | (simp only [nI, decide_eq_true_eq, decide_eq_false_iff_not, mostBytes, List.length_nil, Nat.mul_one]; omega))⟩, htw⟩, (by first | omega | (simp only [nI, decide_eq_true_eq, decide_eq_false_iff_not, mostBytes, List.length_nil, Nat.mul_one]; omega))⟩, (w0t hw0)⟩, (by first | omega | (simp only [nI, decide_eq_true_eq, decide_eq_false_iff_not, mostBytes, List.length_nil, Nat.mul_one]; omega))⟩, ⟨hq, (by first | omega | (simp only [nI, decide_eq_true_eq, decide_eq_false_iff_not, mostBytes, List.length_nil, Nat.mul_one]; omega))⟩⟩, (a27 h hB (by omega) (wz_eq h h0) (by omega))⟩, (by rw [h0, row_nil h h0]; simp [layI])⟩, hq⟩, (str_of (wz_eq h h0))⟩, (by first | omega | (simp only [nI, decide_eq_true_eq, decide_eq_false_iff_not, mostBytes, List.length_nil, Nat.mul_one]; omega))⟩, ⟨.inl rfl, Nat.le_refl _⟩⟩, (by first | omega | (simp only [nI, decide_eq_true_eq, decide_eq_false_iff_not, mostBytes, List.length_nil, Nat.mul_one]; omega))⟩, ⟨hq, (by first | omega | (simp only [nI, decide_eq_true_eq, decide_eq_false_iff_not, mostBytes, List.length_nil, Nat.mul_one]; omega))⟩⟩, (fk_of (by omega))⟩)⟩
theorem qREs0 {x : Acts} {n c k : Nat} {A B : Sd} {M N : List Int} {v : VF} (h : At x n k) (hv : ∀ i, DeadV (v i)) (hA : Side A M (100 * k)) (hB : Side B [] (100 * k)) (fA : Full A M) (htw : x.tw (ix k) = false) (hw0 : x.wh (ix k) ≠ 0) (hw1 : x.wh (ix k) = 1) :
    ∃ tz, Good x n c (k + 1) tz ∧ ∀ rd, Step Try.prog rd (sE x n c) lb (st HRE x n c k A B v) (fun e t => e = .normal ∧ t = tz) := by
  have hlt := h.lt
  have hfw := h.few
  have hs := h.short
  have hl := h.len
  have hq := h.mem
  have bA := hA.bound (by omega)
  have bB := hB.bound (by omega)
  have fa1 := fA.a
  have fa2 := fA.pos
  have fa3 := fA.le
  have fa4 := congrArg List.length fA.m1
  have fa5 := hA.len
  exact ⟨_, gRE (Vs_dead hv) (hA.up (by omega)) fA (hB.up (by omega)), fun rd => sREs0 (R := rawN) rd hv ⟨⟨⟨⟨⟨⟨⟨⟨⟨⟨⟨⟨⟨⟨⟨⟨⟨⟨⟨⟨⟨⟨trivial, (by first | omega | (simp only [nI, decide_eq_true_eq, decide_eq_false_iff_not, mostBytes, List.length_nil, Nat.mul_one]; omega))⟩, (by first | omega | (simp only [nI, decide_eq_true_eq, decide_eq_false_iff_not, mostBytes, List.length_nil, Nat.mul_one]; omega))⟩, (by first | omega | (simp only [nI, decide_eq_true_eq, decide_eq_false_iff_not, mostBytes, List.length_nil, Nat.mul_one]; omega))⟩, htw⟩, (by first | omega | (simp only [nI, decide_eq_true_eq, decide_eq_false_iff_not, mostBytes, List.length_nil, Nat.mul_one]; omega))⟩, (w0f hw0)⟩, (w1t hw1)⟩, (by first | omega | (simp only [nI, decide_eq_true_eq, decide_eq_false_iff_not, mostBytes, List.length_nil, Nat.mul_one]; omega))⟩, (q13_of fA hA.byt (by have := hA.len; omega))⟩, (cS_of hA fA.m1)⟩, (cS_of hA fA.m1)⟩, (cS_of hA fA.m1)⟩, (cS_of hA fA.m1)⟩, (cS_of hA fA.m1)⟩, (cS_of hA fA.m1)⟩, (cS_of hA fA.m1)⟩, (cS_of hA fA.m1)⟩, (cS_of hA fA.m1)⟩, (cS_of hA fA.m1)⟩, (cS_of hA fA.m1)⟩, (cD_of hA fA)⟩, (fk_of (by omega))⟩⟩
theorem qREs1 {x : Acts} {n c k : Nat} {A B : Sd} {M N : List Int} {v : VF} (h : At x n k) (hv : ∀ i, DeadV (v i)) (hA : Side A M (100 * k)) (hB : Side B [] (100 * k)) (fA : Full A M) (htw : x.tw (ix k) = true) (hw0 : x.wh (ix k) ≠ 0) (hw1 : x.wh (ix k) = 1) :
    ∃ tz, Good x n c (k + 1) tz ∧ ∀ rd, Step Try.prog rd (sE x n c) lb (st HRE x n c k A B v) (fun e t => e = .normal ∧ t = tz) := by
  have hlt := h.lt
  have hfw := h.few
  have hs := h.short
  have hl := h.len
  have hq := h.mem
  have bA := hA.bound (by omega)
  have bB := hB.bound (by omega)
  have fa1 := fA.a
  have fa2 := fA.pos
  have fa3 := fA.le
  have fa4 := congrArg List.length fA.m1
  have fa5 := hA.len
  exact ⟨_, gRE (Vs_dead hv) (hA.up (by omega)) fA (hB.up (by omega)), fun rd => sREs1 (R := rawN) rd hv ⟨⟨⟨⟨⟨⟨⟨⟨⟨⟨⟨⟨⟨⟨⟨⟨⟨⟨⟨⟨⟨⟨trivial, (by first | omega | (simp only [nI, decide_eq_true_eq, decide_eq_false_iff_not, mostBytes, List.length_nil, Nat.mul_one]; omega))⟩, (by first | omega | (simp only [nI, decide_eq_true_eq, decide_eq_false_iff_not, mostBytes, List.length_nil, Nat.mul_one]; omega))⟩, (by first | omega | (simp only [nI, decide_eq_true_eq, decide_eq_false_iff_not, mostBytes, List.length_nil, Nat.mul_one]; omega))⟩, htw⟩, (by first | omega | (simp only [nI, decide_eq_true_eq, decide_eq_false_iff_not, mostBytes, List.length_nil, Nat.mul_one]; omega))⟩, (w0f hw0)⟩, (w1t hw1)⟩, (by first | omega | (simp only [nI, decide_eq_true_eq, decide_eq_false_iff_not, mostBytes, List.length_nil, Nat.mul_one]; omega))⟩, rfl⟩, (cS_nil hB)⟩, (cS_nil hB)⟩, (cS_nil hB)⟩, (cS_nil hB)⟩, (cS_nil hB)⟩, (cS_nil hB)⟩, (cS_nil hB)⟩, (cS_nil hB)⟩, (cS_nil hB)⟩, (cS_nil hB)⟩, (cS_nil hB)⟩, (cD_nil hB)⟩, (fk_of (by omega))⟩⟩
theorem qREc0 {x : Acts} {n c k : Nat} {A B : Sd} {M N : List Int} {v : VF} (h : At x n k) (hv : ∀ i, DeadV (v i)) (hA : Side A M (100 * k)) (hB : Side B [] (100 * k)) (fA : Full A M) (htw : x.tw (ix k) = false) (hw0 : x.wh (ix k) ≠ 0) (hw1 : x.wh (ix k) ≠ 1) :
    ∃ tz, Good x n c (k + 1) tz ∧ ∀ rd, Step Try.prog rd (sE x n c) lb (st HRE x n c k A B v) (fun e t => e = .normal ∧ t = tz) := by
  have hlt := h.lt
  have hfw := h.few
  have hs := h.short
  have hl := h.len
  have hq := h.mem
  have bA := hA.bound (by omega)
  have bB := hB.bound (by omega)
  have fa1 := fA.a
  have fa2 := fA.pos
  have fa3 := fA.le
  have fa4 := congrArg List.length fA.m1
  have fa5 := hA.len
  exact ⟨_, gEE (Vc_dead hv) (Side.any (hB.up (by omega)) _ _ _) (hB.up (by omega)), fun rd => sREc0 (R := rawN) rd hv ⟨⟨⟨⟨⟨⟨⟨⟨trivial, (by first | omega | (simp only [nI, decide_eq_true_eq, decide_eq_false_iff_not, mostBytes, List.length_nil, Nat.mul_one]; omega))⟩, (by first | omega | (simp only [nI, decide_eq_true_eq, decide_eq_false_iff_not, mostBytes, List.length_nil, Nat.mul_one]; omega))⟩, (by first | omega | (simp only [nI, decide_eq_true_eq, decide_eq_false_iff_not, mostBytes, List.length_nil, Nat.mul_one]; omega))⟩, htw⟩, (by first | omega | (simp only [nI, decide_eq_true_eq, decide_eq_false_iff_not, mostBytes, List.length_nil, Nat.mul_one]; omega))⟩, (w0f hw0)⟩, (w1f hw1)⟩, (fk_of (by omega))⟩⟩
theorem qREc1 {x : Acts} {n c k : Nat} {A B : Sd} {M N : List Int} {v : VF} (h : At x n k) (hv : ∀ i, DeadV (v i)) (hA : Side A M (100 * k)) (hB : Side B [] (100 * k)) (fA : Full A M) (htw : x.tw (ix k) = true) (hw0 : x.wh (ix k) ≠ 0) (hw1 : x.wh (ix k) ≠ 1) :
    ∃ tz, Good x n c (k + 1) tz ∧ ∀ rd, Step Try.prog rd (sE x n c) lb (st HRE x n c k A B v) (fun e t => e = .normal ∧ t = tz) := by
  have hlt := h.lt
  have hfw := h.few
  have hs := h.short
  have hl := h.len
  have hq := h.mem
  have bA := hA.bound (by omega)
  have bB := hB.bound (by omega)
  have fa1 := fA.a
  have fa2 := fA.pos
  have fa3 := fA.le
  have fa4 := congrArg List.length fA.m1
  have fa5 := hA.len
  exact ⟨_, gSS (Vc_dead hv) (Side.any (hA.up (by omega)) _ _ _) (Full.any fA _ _) (Side.any (hA.up (by omega)) _ _ _), fun rd => sREc1 (R := rawN) rd hv ⟨⟨⟨⟨⟨⟨⟨⟨trivial, (by first | omega | (simp only [nI, decide_eq_true_eq, decide_eq_false_iff_not, mostBytes, List.length_nil, Nat.mul_one]; omega))⟩, (by first | omega | (simp only [nI, decide_eq_true_eq, decide_eq_false_iff_not, mostBytes, List.length_nil, Nat.mul_one]; omega))⟩, (by first | omega | (simp only [nI, decide_eq_true_eq, decide_eq_false_iff_not, mostBytes, List.length_nil, Nat.mul_one]; omega))⟩, htw⟩, (by first | omega | (simp only [nI, decide_eq_true_eq, decide_eq_false_iff_not, mostBytes, List.length_nil, Nat.mul_one]; omega))⟩, (w0f hw0)⟩, (w1f hw1)⟩, (fk_of (by omega))⟩⟩
theorem qREw10 {x : Acts} {n c k : Nat} {A B : Sd} {M N : List Int} {v : VF} (h : At x n k) (hv : ∀ i, DeadV (v i)) (hA : Side A M (100 * k)) (hB : Side B [] (100 * k)) (fA : Full A M) (htw : x.tw (ix k) = false) (hw0 : x.wh (ix k) = 0) (h0 : x.m (ix k) ≠ 0) :
    ∃ tz, Good x n c (k + 1) tz ∧ ∀ rd, Step Try.prog rd (sE x n c) lb (st HRE x n c k A B v) (fun e t => e = .normal ∧ t = tz) := by
  have hlt := h.lt
  have hfw := h.few
  have hs := h.short
  have hl := h.len
  have hq := h.mem
  have bA := hA.bound (by omega)
  have bB := hB.bound (by omega)
  have fa1 := fA.a
  have fa2 := fA.pos
  have fa3 := fA.le
  have fa4 := congrArg List.length fA.m1
  have fa5 := hA.len
  exact ⟨_, gRE (Vw1_dead hv) (side_put h hA (wf_eq h)) (full_RF h fA) (hB.up (by omega)), fun rd => sREw10 (R := rawN) rd hv ⟨⟨⟨⟨⟨⟨⟨⟨⟨⟨⟨⟨⟨⟨⟨⟨⟨⟨trivial, (by first | omega | (simp only [nI, decide_eq_true_eq, decide_eq_false_iff_not, mostBytes, List.length_nil, Nat.mul_one]; omega))⟩, (by first | omega | (simp only [nI, decide_eq_true_eq, decide_eq_false_iff_not, mostBytes, List.length_nil, Nat.mul_one]; omega))⟩, (by first | omega | (simp only [nI, decide_eq_true_eq, decide_eq_false_iff_not, mostBytes, List.length_nil, Nat.mul_one]; omega))⟩, htw⟩, (by first | omega | (simp only [nI, decide_eq_true_eq, decide_eq_false_iff_not, mostBytes, List.length_nil, Nat.mul_one]; omega))⟩, (w0t hw0)⟩, (by first | omega | (simp only [nI, decide_eq_true_eq, decide_eq_false_iff_not, mostBytes, List.length_nil, Nat.mul_one]; omega))⟩, ⟨hq, (by first | omega | (simp only [nI, decide_eq_true_eq, decide_eq_false_iff_not, mostBytes, List.length_nil, Nat.mul_one]; omega))⟩⟩, (a27 h hA (by omega) (wf_eq h) (by omega))⟩, (by first | omega | (simp only [nI, decide_eq_true_eq, decide_eq_false_iff_not, mostBytes, List.length_nil, Nat.mul_one]; omega))⟩, hq⟩, (str_of (wf_eq h))⟩, (fun rd => loopJ hRE jnRE jxRE joRE x n c k _ _ (Vpre v) 0 (rowx x k) (x.m (ix k)) rfl (by omega) (by omega) hl (Vpre_dead hv) rd)⟩, (by first | omega | (simp only [nI, decide_eq_true_eq, decide_eq_false_iff_not, mostBytes, List.length_nil, Nat.mul_one]; omega))⟩, (by first | omega | (simp only [nI, decide_eq_true_eq, decide_eq_false_iff_not, mostBytes, List.length_nil, Nat.mul_one]; omega))⟩, (by first | omega | (simp only [nI, decide_eq_true_eq, decide_eq_false_iff_not, mostBytes, List.length_nil, Nat.mul_one]; omega))⟩, ⟨hq, (by first | omega | (simp only [nI, decide_eq_true_eq, decide_eq_false_iff_not, mostBytes, List.length_nil, Nat.mul_one]; omega))⟩⟩, (fk_of (by omega))⟩⟩
theorem qREw11 {x : Acts} {n c k : Nat} {A B : Sd} {M N : List Int} {v : VF} (h : At x n k) (hv : ∀ i, DeadV (v i)) (hA : Side A M (100 * k)) (hB : Side B [] (100 * k)) (fA : Full A M) (htw : x.tw (ix k) = true) (hw0 : x.wh (ix k) = 0) (h0 : x.m (ix k) ≠ 0) :
    ∃ tz, Good x n c (k + 1) tz ∧ ∀ rd, Step Try.prog rd (sE x n c) lb (st HRE x n c k A B v) (fun e t => e = .normal ∧ t = tz) := by
  have hlt := h.lt
  have hfw := h.few
  have hs := h.short
  have hl := h.len
  have hq := h.mem
  have bA := hA.bound (by omega)
  have bB := hB.bound (by omega)
  have fa1 := fA.a
  have fa2 := fA.pos
  have fa3 := fA.le
  have fa4 := congrArg List.length fA.m1
  have fa5 := hA.len
  exact ⟨_, gRR (Vw1_dead hv) (hA.up (by omega)) fA (side_put h hB (wf_eq h)) (full_EF h h0), fun rd => sREw11 (R := rawN) rd hv ⟨⟨⟨⟨⟨⟨⟨⟨⟨⟨⟨⟨⟨⟨⟨⟨⟨trivial, (by first | omega | (simp only [nI, decide_eq_true_eq, decide_eq_false_iff_not, mostBytes, List.length_nil, Nat.mul_one]; omega))⟩, (by first | omega | (simp only [nI, decide_eq_true_eq, decide_eq_false_iff_not, mostBytes, List.length_nil, Nat.mul_one]; omega))⟩, (by first | omega | (simp only [nI, decide_eq_true_eq, decide_eq_false_iff_not, mostBytes, List.length_nil, Nat.mul_one]; omega))⟩, htw⟩, (by first | omega | (simp only [nI, decide_eq_true_eq, decide_eq_false_iff_not, mostBytes, List.length_nil, Nat.mul_one]; omega))⟩, (w0t hw0)⟩, (by first | omega | (simp only [nI, decide_eq_true_eq, decide_eq_false_iff_not, mostBytes, List.length_nil, Nat.mul_one]; omega))⟩, ⟨hq, (by first | omega | (simp only [nI, decide_eq_true_eq, decide_eq_false_iff_not, mostBytes, List.length_nil, Nat.mul_one]; omega))⟩⟩, (a27 h hB (by omega) (wf_eq h) (by omega))⟩, (by first | omega | (simp only [nI, decide_eq_true_eq, decide_eq_false_iff_not, mostBytes, List.length_nil, Nat.mul_one]; omega))⟩, hq⟩, (str_of (wf_eq h))⟩, (fun rd => loopJ hRE jnRE jxRE joRE x n c k _ _ (Vpre v) 1 (rowx x k) (x.m (ix k)) rfl (by omega) (by omega) hl (Vpre_dead hv) rd)⟩, ⟨.inl rfl, Nat.le_refl _⟩⟩, (by first | omega | (simp only [nI, decide_eq_true_eq, decide_eq_false_iff_not, mostBytes, List.length_nil, Nat.mul_one]; omega))⟩, ⟨hq, (by first | omega | (simp only [nI, decide_eq_true_eq, decide_eq_false_iff_not, mostBytes, List.length_nil, Nat.mul_one]; omega))⟩⟩, (fk_of (by omega))⟩⟩
theorem qREw00 {x : Acts} {n c k : Nat} {A B : Sd} {M N : List Int} {v : VF} (h : At x n k) (hv : ∀ i, DeadV (v i)) (hA : Side A M (100 * k)) (hB : Side B [] (100 * k)) (fA : Full A M) (htw : x.tw (ix k) = false) (hw0 : x.wh (ix k) = 0) (h0 : x.m (ix k) = 0) :
    ∃ tz, Good x n c (k + 1) tz ∧ ∀ rd, Step Try.prog rd (sE x n c) lb (st HRE x n c k A B v) (fun e t => e = .normal ∧ t = tz) := by
  have hlt := h.lt
  have hfw := h.few
  have hs := h.short
  have hl := h.len
  have hq := h.mem
  have bA := hA.bound (by omega)
  have bB := hB.bound (by omega)
  have fa1 := fA.a
  have fa2 := fA.pos
  have fa3 := fA.le
  have fa4 := congrArg List.length fA.m1
  have fa5 := hA.len
  exact ⟨_, gRE (Vw0_dead hv) (side_put h hA (wz_eq h h0)) (full_RZ h h0 fA) (hB.up (by omega)), fun rd => sREw00 (R := rawN) rd hv ⟨⟨⟨⟨⟨⟨⟨⟨⟨⟨⟨⟨⟨⟨⟨⟨⟨⟨trivial, (by first | omega | (simp only [nI, decide_eq_true_eq, decide_eq_false_iff_not, mostBytes, List.length_nil, Nat.mul_one]; omega))⟩, (by first | omega | (simp only [nI, decide_eq_true_eq, decide_eq_false_iff_not, mostBytes, List.length_nil, Nat.mul_one]; omega))⟩, (by first | omega | (simp only [nI, decide_eq_true_eq, decide_eq_false_iff_not, mostBytes, List.length_nil, Nat.mul_one]; omega))⟩, htw⟩, (by first | omega | (simp only [nI, decide_eq_true_eq, decide_eq_false_iff_not, mostBytes, List.length_nil, Nat.mul_one]; omega))⟩, (w0t hw0)⟩, (by first | omega | (simp only [nI, decide_eq_true_eq, decide_eq_false_iff_not, mostBytes, List.length_nil, Nat.mul_one]; omega))⟩, ⟨hq, (by first | omega | (simp only [nI, decide_eq_true_eq, decide_eq_false_iff_not, mostBytes, List.length_nil, Nat.mul_one]; omega))⟩⟩, (a27 h hA (by omega) (wz_eq h h0) (by omega))⟩, (by rw [h0, row_nil h h0]; simp [layI])⟩, hq⟩, (str_of (wz_eq h h0))⟩, (by first | omega | (simp only [nI, decide_eq_true_eq, decide_eq_false_iff_not, mostBytes, List.length_nil, Nat.mul_one]; omega))⟩, (by first | omega | (simp only [nI, decide_eq_true_eq, decide_eq_false_iff_not, mostBytes, List.length_nil, Nat.mul_one]; omega))⟩, (by first | omega | (simp only [nI, decide_eq_true_eq, decide_eq_false_iff_not, mostBytes, List.length_nil, Nat.mul_one]; omega))⟩, (by first | omega | (simp only [nI, decide_eq_true_eq, decide_eq_false_iff_not, mostBytes, List.length_nil, Nat.mul_one]; omega))⟩, ⟨hq, (by first | omega | (simp only [nI, decide_eq_true_eq, decide_eq_false_iff_not, mostBytes, List.length_nil, Nat.mul_one]; omega))⟩⟩, (fk_of (by omega))⟩⟩
theorem qREw01 {x : Acts} {n c k : Nat} {A B : Sd} {M N : List Int} {v : VF} (h : At x n k) (hv : ∀ i, DeadV (v i)) (hA : Side A M (100 * k)) (hB : Side B [] (100 * k)) (fA : Full A M) (htw : x.tw (ix k) = true) (hw0 : x.wh (ix k) = 0) (h0 : x.m (ix k) = 0) :
    ∃ tz, Good x n c (k + 1) tz ∧ ∀ rd, Step Try.prog rd (sE x n c) lb (st HRE x n c k A B v) (fun e t => e = .normal ∧ t = tz) := by
  have hlt := h.lt
  have hfw := h.few
  have hs := h.short
  have hl := h.len
  have hq := h.mem
  have bA := hA.bound (by omega)
  have bB := hB.bound (by omega)
  have fa1 := fA.a
  have fa2 := fA.pos
  have fa3 := fA.le
  have fa4 := congrArg List.length fA.m1
  have fa5 := hA.len
  exact ⟨_, gRE (Vw0_dead hv) (hA.up (by omega)) fA (by have := side_put (L := B.L) (a := B.a) (q := B.q) h hB (wz_eq h h0); rw [row_nil h h0, List.append_nil] at this; exact this), fun rd => Step.weaken (t2 := st HRE x n c (k + 1) A (⟨upd B.t B.s (wz x k), B.s + nI (0 + x.m (ix k)), B.L, B.a, B.q⟩) (Vw0 v)) (wk_HH (.inl rfl) (zl0 9 (by omega))) (sREw01 (R := rawN) rd hv ⟨⟨⟨⟨⟨⟨⟨⟨⟨⟨⟨⟨⟨⟨⟨⟨⟨trivial, (by first | omega | (simp only [nI, decide_eq_true_eq, decide_eq_false_iff_not, mostBytes, List.length_nil, Nat.mul_one]; omega))⟩, (by first | omega | (simp only [nI, decide_eq_true_eq, decide_eq_false_iff_not, mostBytes, List.length_nil, Nat.mul_one]; omega))⟩, (by first | omega | (simp only [nI, decide_eq_true_eq, decide_eq_false_iff_not, mostBytes, List.length_nil, Nat.mul_one]; omega))⟩, htw⟩, (by first | omega | (simp only [nI, decide_eq_true_eq, decide_eq_false_iff_not, mostBytes, List.length_nil, Nat.mul_one]; omega))⟩, (w0t hw0)⟩, (by first | omega | (simp only [nI, decide_eq_true_eq, decide_eq_false_iff_not, mostBytes, List.length_nil, Nat.mul_one]; omega))⟩, ⟨hq, (by first | omega | (simp only [nI, decide_eq_true_eq, decide_eq_false_iff_not, mostBytes, List.length_nil, Nat.mul_one]; omega))⟩⟩, (a27 h hB (by omega) (wz_eq h h0) (by omega))⟩, (by rw [h0, row_nil h h0]; simp [layI])⟩, hq⟩, (str_of (wz_eq h h0))⟩, (by first | omega | (simp only [nI, decide_eq_true_eq, decide_eq_false_iff_not, mostBytes, List.length_nil, Nat.mul_one]; omega))⟩, ⟨.inl rfl, Nat.le_refl _⟩⟩, (by first | omega | (simp only [nI, decide_eq_true_eq, decide_eq_false_iff_not, mostBytes, List.length_nil, Nat.mul_one]; omega))⟩, ⟨hq, (by first | omega | (simp only [nI, decide_eq_true_eq, decide_eq_false_iff_not, mostBytes, List.length_nil, Nat.mul_one]; omega))⟩⟩, (fk_of (by omega))⟩)⟩
theorem qERs0 {x : Acts} {n c k : Nat} {A B : Sd} {M N : List Int} {v : VF} (h : At x n k) (hv : ∀ i, DeadV (v i)) (hA : Side A [] (100 * k)) (hB : Side B N (100 * k)) (fB : Full B N) (htw : x.tw (ix k) = false) (hw0 : x.wh (ix k) ≠ 0) (hw1 : x.wh (ix k) = 1) :
    ∃ tz, Good x n c (k + 1) tz ∧ ∀ rd, Step Try.prog rd (sE x n c) lb (st HER x n c k A B v) (fun e t => e = .normal ∧ t = tz) := by
  have hlt := h.lt
  have hfw := h.few
  have hs := h.short
  have hl := h.len
  have hq := h.mem
  have bA := hA.bound (by omega)
  have bB := hB.bound (by omega)
  have fb1 := fB.a
  have fb2 := fB.pos
  have fb3 := fB.le
  have fb4 := congrArg List.length fB.m1
  have fb5 := hB.len
  exact ⟨_, gER (Vs_dead hv) (hA.up (by omega)) (hB.up (by omega)) fB, fun rd => sERs0 (R := rawN) rd hv ⟨⟨⟨⟨⟨⟨⟨⟨⟨⟨⟨⟨⟨⟨⟨⟨⟨⟨⟨⟨⟨⟨trivial, (by first | omega | (simp only [nI, decide_eq_true_eq, decide_eq_false_iff_not, mostBytes, List.length_nil, Nat.mul_one]; omega))⟩, (by first | omega | (simp only [nI, decide_eq_true_eq, decide_eq_false_iff_not, mostBytes, List.length_nil, Nat.mul_one]; omega))⟩, (by first | omega | (simp only [nI, decide_eq_true_eq, decide_eq_false_iff_not, mostBytes, List.length_nil, Nat.mul_one]; omega))⟩, htw⟩, (by first | omega | (simp only [nI, decide_eq_true_eq, decide_eq_false_iff_not, mostBytes, List.length_nil, Nat.mul_one]; omega))⟩, (w0f hw0)⟩, (w1t hw1)⟩, (by first | omega | (simp only [nI, decide_eq_true_eq, decide_eq_false_iff_not, mostBytes, List.length_nil, Nat.mul_one]; omega))⟩, rfl⟩, (cS_nil hA)⟩, (cS_nil hA)⟩, (cS_nil hA)⟩, (cS_nil hA)⟩, (cS_nil hA)⟩, (cS_nil hA)⟩, (cS_nil hA)⟩, (cS_nil hA)⟩, (cS_nil hA)⟩, (cS_nil hA)⟩, (cS_nil hA)⟩, (cD_nil hA)⟩, (fk_of (by omega))⟩⟩
theorem qERs1 {x : Acts} {n c k : Nat} {A B : Sd} {M N : List Int} {v : VF} (h : At x n k) (hv : ∀ i, DeadV (v i)) (hA : Side A [] (100 * k)) (hB : Side B N (100 * k)) (fB : Full B N) (htw : x.tw (ix k) = true) (hw0 : x.wh (ix k) ≠ 0) (hw1 : x.wh (ix k) = 1) :
    ∃ tz, Good x n c (k + 1) tz ∧ ∀ rd, Step Try.prog rd (sE x n c) lb (st HER x n c k A B v) (fun e t => e = .normal ∧ t = tz) := by
  have hlt := h.lt
  have hfw := h.few
  have hs := h.short
  have hl := h.len
  have hq := h.mem
  have bA := hA.bound (by omega)
  have bB := hB.bound (by omega)
  have fb1 := fB.a
  have fb2 := fB.pos
  have fb3 := fB.le
  have fb4 := congrArg List.length fB.m1
  have fb5 := hB.len
  exact ⟨_, gER (Vs_dead hv) (hA.up (by omega)) (hB.up (by omega)) fB, fun rd => sERs1 (R := rawN) rd hv ⟨⟨⟨⟨⟨⟨⟨⟨⟨⟨⟨⟨⟨⟨⟨⟨⟨⟨⟨⟨⟨⟨trivial, (by first | omega | (simp only [nI, decide_eq_true_eq, decide_eq_false_iff_not, mostBytes, List.length_nil, Nat.mul_one]; omega))⟩, (by first | omega | (simp only [nI, decide_eq_true_eq, decide_eq_false_iff_not, mostBytes, List.length_nil, Nat.mul_one]; omega))⟩, (by first | omega | (simp only [nI, decide_eq_true_eq, decide_eq_false_iff_not, mostBytes, List.length_nil, Nat.mul_one]; omega))⟩, htw⟩, (by first | omega | (simp only [nI, decide_eq_true_eq, decide_eq_false_iff_not, mostBytes, List.length_nil, Nat.mul_one]; omega))⟩, (w0f hw0)⟩, (w1t hw1)⟩, (by first | omega | (simp only [nI, decide_eq_true_eq, decide_eq_false_iff_not, mostBytes, List.length_nil, Nat.mul_one]; omega))⟩, (q13_of fB hB.byt (by have := hB.len; omega))⟩, (cS_of hB fB.m1)⟩, (cS_of hB fB.m1)⟩, (cS_of hB fB.m1)⟩, (cS_of hB fB.m1)⟩, (cS_of hB fB.m1)⟩, (cS_of hB fB.m1)⟩, (cS_of hB fB.m1)⟩, (cS_of hB fB.m1)⟩, (cS_of hB fB.m1)⟩, (cS_of hB fB.m1)⟩, (cS_of hB fB.m1)⟩, (cD_of hB fB)⟩, (fk_of (by omega))⟩⟩
theorem qERc0 {x : Acts} {n c k : Nat} {A B : Sd} {M N : List Int} {v : VF} (h : At x n k) (hv : ∀ i, DeadV (v i)) (hA : Side A [] (100 * k)) (hB : Side B N (100 * k)) (fB : Full B N) (htw : x.tw (ix k) = false) (hw0 : x.wh (ix k) ≠ 0) (hw1 : x.wh (ix k) ≠ 1) :
    ∃ tz, Good x n c (k + 1) tz ∧ ∀ rd, Step Try.prog rd (sE x n c) lb (st HER x n c k A B v) (fun e t => e = .normal ∧ t = tz) := by
  have hlt := h.lt
  have hfw := h.few
  have hs := h.short
  have hl := h.len
  have hq := h.mem
  have bA := hA.bound (by omega)
  have bB := hB.bound (by omega)
  have fb1 := fB.a
  have fb2 := fB.pos
  have fb3 := fB.le
  have fb4 := congrArg List.length fB.m1
  have fb5 := hB.len
  exact ⟨_, gSS (Vc_dead hv) (Side.any (hB.up (by omega)) _ _ _) (Full.any fB _ _) (Side.any (hB.up (by omega)) _ _ _), fun rd => sERc0 (R := rawN) rd hv ⟨⟨⟨⟨⟨⟨⟨⟨trivial, (by first | omega | (simp only [nI, decide_eq_true_eq, decide_eq_false_iff_not, mostBytes, List.length_nil, Nat.mul_one]; omega))⟩, (by first | omega | (simp only [nI, decide_eq_true_eq, decide_eq_false_iff_not, mostBytes, List.length_nil, Nat.mul_one]; omega))⟩, (by first | omega | (simp only [nI, decide_eq_true_eq, decide_eq_false_iff_not, mostBytes, List.length_nil, Nat.mul_one]; omega))⟩, htw⟩, (by first | omega | (simp only [nI, decide_eq_true_eq, decide_eq_false_iff_not, mostBytes, List.length_nil, Nat.mul_one]; omega))⟩, (w0f hw0)⟩, (w1f hw1)⟩, (fk_of (by omega))⟩⟩
theorem qERc1 {x : Acts} {n c k : Nat} {A B : Sd} {M N : List Int} {v : VF} (h : At x n k) (hv : ∀ i, DeadV (v i)) (hA : Side A [] (100 * k)) (hB : Side B N (100 * k)) (fB : Full B N) (htw : x.tw (ix k) = true) (hw0 : x.wh (ix k) ≠ 0) (hw1 : x.wh (ix k) ≠ 1) :
    ∃ tz, Good x n c (k + 1) tz ∧ ∀ rd, Step Try.prog rd (sE x n c) lb (st HER x n c k A B v) (fun e t => e = .normal ∧ t = tz) := by
  have hlt := h.lt
  have hfw := h.few
  have hs := h.short
  have hl := h.len
  have hq := h.mem
  have bA := hA.bound (by omega)
  have bB := hB.bound (by omega)
  have fb1 := fB.a
  have fb2 := fB.pos
  have fb3 := fB.le
  have fb4 := congrArg List.length fB.m1
  have fb5 := hB.len
  exact ⟨_, gEE (Vc_dead hv) (hA.up (by omega)) (Side.any (hA.up (by omega)) _ _ _), fun rd => sERc1 (R := rawN) rd hv ⟨⟨⟨⟨⟨⟨⟨⟨trivial, (by first | omega | (simp only [nI, decide_eq_true_eq, decide_eq_false_iff_not, mostBytes, List.length_nil, Nat.mul_one]; omega))⟩, (by first | omega | (simp only [nI, decide_eq_true_eq, decide_eq_false_iff_not, mostBytes, List.length_nil, Nat.mul_one]; omega))⟩, (by first | omega | (simp only [nI, decide_eq_true_eq, decide_eq_false_iff_not, mostBytes, List.length_nil, Nat.mul_one]; omega))⟩, htw⟩, (by first | omega | (simp only [nI, decide_eq_true_eq, decide_eq_false_iff_not, mostBytes, List.length_nil, Nat.mul_one]; omega))⟩, (w0f hw0)⟩, (w1f hw1)⟩, (fk_of (by omega))⟩⟩
theorem qERw10 {x : Acts} {n c k : Nat} {A B : Sd} {M N : List Int} {v : VF} (h : At x n k) (hv : ∀ i, DeadV (v i)) (hA : Side A [] (100 * k)) (hB : Side B N (100 * k)) (fB : Full B N) (htw : x.tw (ix k) = false) (hw0 : x.wh (ix k) = 0) (h0 : x.m (ix k) ≠ 0) :
    ∃ tz, Good x n c (k + 1) tz ∧ ∀ rd, Step Try.prog rd (sE x n c) lb (st HER x n c k A B v) (fun e t => e = .normal ∧ t = tz) := by
  have hlt := h.lt
  have hfw := h.few
  have hs := h.short
  have hl := h.len
  have hq := h.mem
  have bA := hA.bound (by omega)
  have bB := hB.bound (by omega)
  have fb1 := fB.a
  have fb2 := fB.pos
  have fb3 := fB.le
  have fb4 := congrArg List.length fB.m1
  have fb5 := hB.len
  exact ⟨_, gRR (Vw1_dead hv) (side_put h hA (wf_eq h)) (full_EF h h0) (hB.up (by omega)) fB, fun rd => sERw10 (R := rawN) rd hv ⟨⟨⟨⟨⟨⟨⟨⟨⟨⟨⟨⟨⟨⟨⟨⟨⟨trivial, (by first | omega | (simp only [nI, decide_eq_true_eq, decide_eq_false_iff_not, mostBytes, List.length_nil, Nat.mul_one]; omega))⟩, (by first | omega | (simp only [nI, decide_eq_true_eq, decide_eq_false_iff_not, mostBytes, List.length_nil, Nat.mul_one]; omega))⟩, (by first | omega | (simp only [nI, decide_eq_true_eq, decide_eq_false_iff_not, mostBytes, List.length_nil, Nat.mul_one]; omega))⟩, htw⟩, (by first | omega | (simp only [nI, decide_eq_true_eq, decide_eq_false_iff_not, mostBytes, List.length_nil, Nat.mul_one]; omega))⟩, (w0t hw0)⟩, (by first | omega | (simp only [nI, decide_eq_true_eq, decide_eq_false_iff_not, mostBytes, List.length_nil, Nat.mul_one]; omega))⟩, ⟨hq, (by first | omega | (simp only [nI, decide_eq_true_eq, decide_eq_false_iff_not, mostBytes, List.length_nil, Nat.mul_one]; omega))⟩⟩, (a27 h hA (by omega) (wf_eq h) (by omega))⟩, (by first | omega | (simp only [nI, decide_eq_true_eq, decide_eq_false_iff_not, mostBytes, List.length_nil, Nat.mul_one]; omega))⟩, hq⟩, (str_of (wf_eq h))⟩, (fun rd => loopJ hER jnER jxER joER x n c k _ _ (Vpre v) 0 (rowx x k) (x.m (ix k)) rfl (by omega) (by omega) hl (Vpre_dead hv) rd)⟩, ⟨.inl rfl, Nat.le_refl _⟩⟩, (by first | omega | (simp only [nI, decide_eq_true_eq, decide_eq_false_iff_not, mostBytes, List.length_nil, Nat.mul_one]; omega))⟩, ⟨hq, (by first | omega | (simp only [nI, decide_eq_true_eq, decide_eq_false_iff_not, mostBytes, List.length_nil, Nat.mul_one]; omega))⟩⟩, (fk_of (by omega))⟩⟩
theorem qERw11 {x : Acts} {n c k : Nat} {A B : Sd} {M N : List Int} {v : VF} (h : At x n k) (hv : ∀ i, DeadV (v i)) (hA : Side A [] (100 * k)) (hB : Side B N (100 * k)) (fB : Full B N) (htw : x.tw (ix k) = true) (hw0 : x.wh (ix k) = 0) (h0 : x.m (ix k) ≠ 0) :
    ∃ tz, Good x n c (k + 1) tz ∧ ∀ rd, Step Try.prog rd (sE x n c) lb (st HER x n c k A B v) (fun e t => e = .normal ∧ t = tz) := by
  have hlt := h.lt
  have hfw := h.few
  have hs := h.short
  have hl := h.len
  have hq := h.mem
  have bA := hA.bound (by omega)
  have bB := hB.bound (by omega)
  have fb1 := fB.a
  have fb2 := fB.pos
  have fb3 := fB.le
  have fb4 := congrArg List.length fB.m1
  have fb5 := hB.len
  exact ⟨_, gER (Vw1_dead hv) (hA.up (by omega)) (side_put h hB (wf_eq h)) (full_RF h fB), fun rd => sERw11 (R := rawN) rd hv ⟨⟨⟨⟨⟨⟨⟨⟨⟨⟨⟨⟨⟨⟨⟨⟨⟨⟨trivial, (by first | omega | (simp only [nI, decide_eq_true_eq, decide_eq_false_iff_not, mostBytes, List.length_nil, Nat.mul_one]; omega))⟩, (by first | omega | (simp only [nI, decide_eq_true_eq, decide_eq_false_iff_not, mostBytes, List.length_nil, Nat.mul_one]; omega))⟩, (by first | omega | (simp only [nI, decide_eq_true_eq, decide_eq_false_iff_not, mostBytes, List.length_nil, Nat.mul_one]; omega))⟩, htw⟩, (by first | omega | (simp only [nI, decide_eq_true_eq, decide_eq_false_iff_not, mostBytes, List.length_nil, Nat.mul_one]; omega))⟩, (w0t hw0)⟩, (by first | omega | (simp only [nI, decide_eq_true_eq, decide_eq_false_iff_not, mostBytes, List.length_nil, Nat.mul_one]; omega))⟩, ⟨hq, (by first | omega | (simp only [nI, decide_eq_true_eq, decide_eq_false_iff_not, mostBytes, List.length_nil, Nat.mul_one]; omega))⟩⟩, (a27 h hB (by omega) (wf_eq h) (by omega))⟩, (by first | omega | (simp only [nI, decide_eq_true_eq, decide_eq_false_iff_not, mostBytes, List.length_nil, Nat.mul_one]; omega))⟩, hq⟩, (str_of (wf_eq h))⟩, (fun rd => loopJ hER jnER jxER joER x n c k _ _ (Vpre v) 1 (rowx x k) (x.m (ix k)) rfl (by omega) (by omega) hl (Vpre_dead hv) rd)⟩, (by first | omega | (simp only [nI, decide_eq_true_eq, decide_eq_false_iff_not, mostBytes, List.length_nil, Nat.mul_one]; omega))⟩, (by first | omega | (simp only [nI, decide_eq_true_eq, decide_eq_false_iff_not, mostBytes, List.length_nil, Nat.mul_one]; omega))⟩, (by first | omega | (simp only [nI, decide_eq_true_eq, decide_eq_false_iff_not, mostBytes, List.length_nil, Nat.mul_one]; omega))⟩, ⟨hq, (by first | omega | (simp only [nI, decide_eq_true_eq, decide_eq_false_iff_not, mostBytes, List.length_nil, Nat.mul_one]; omega))⟩⟩, (fk_of (by omega))⟩⟩
theorem qERw00 {x : Acts} {n c k : Nat} {A B : Sd} {M N : List Int} {v : VF} (h : At x n k) (hv : ∀ i, DeadV (v i)) (hA : Side A [] (100 * k)) (hB : Side B N (100 * k)) (fB : Full B N) (htw : x.tw (ix k) = false) (hw0 : x.wh (ix k) = 0) (h0 : x.m (ix k) = 0) :
    ∃ tz, Good x n c (k + 1) tz ∧ ∀ rd, Step Try.prog rd (sE x n c) lb (st HER x n c k A B v) (fun e t => e = .normal ∧ t = tz) := by
  have hlt := h.lt
  have hfw := h.few
  have hs := h.short
  have hl := h.len
  have hq := h.mem
  have bA := hA.bound (by omega)
  have bB := hB.bound (by omega)
  have fb1 := fB.a
  have fb2 := fB.pos
  have fb3 := fB.le
  have fb4 := congrArg List.length fB.m1
  have fb5 := hB.len
  exact ⟨_, gER (Vw0_dead hv) (by have := side_put (L := A.L) (a := A.a) (q := A.q) h hA (wz_eq h h0); rw [row_nil h h0, List.append_nil] at this; exact this) (hB.up (by omega)) fB, fun rd => Step.weaken (t2 := st HER x n c (k + 1) (⟨upd A.t A.s (wz x k), A.s + nI (0 + x.m (ix k)), A.L, A.a, A.q⟩) B (Vw0 v)) (wk_HH (zl0 8 (by omega)) (.inl rfl)) (sERw00 (R := rawN) rd hv ⟨⟨⟨⟨⟨⟨⟨⟨⟨⟨⟨⟨⟨⟨⟨⟨⟨trivial, (by first | omega | (simp only [nI, decide_eq_true_eq, decide_eq_false_iff_not, mostBytes, List.length_nil, Nat.mul_one]; omega))⟩, (by first | omega | (simp only [nI, decide_eq_true_eq, decide_eq_false_iff_not, mostBytes, List.length_nil, Nat.mul_one]; omega))⟩, (by first | omega | (simp only [nI, decide_eq_true_eq, decide_eq_false_iff_not, mostBytes, List.length_nil, Nat.mul_one]; omega))⟩, htw⟩, (by first | omega | (simp only [nI, decide_eq_true_eq, decide_eq_false_iff_not, mostBytes, List.length_nil, Nat.mul_one]; omega))⟩, (w0t hw0)⟩, (by first | omega | (simp only [nI, decide_eq_true_eq, decide_eq_false_iff_not, mostBytes, List.length_nil, Nat.mul_one]; omega))⟩, ⟨hq, (by first | omega | (simp only [nI, decide_eq_true_eq, decide_eq_false_iff_not, mostBytes, List.length_nil, Nat.mul_one]; omega))⟩⟩, (a27 h hA (by omega) (wz_eq h h0) (by omega))⟩, (by rw [h0, row_nil h h0]; simp [layI])⟩, hq⟩, (str_of (wz_eq h h0))⟩, (by first | omega | (simp only [nI, decide_eq_true_eq, decide_eq_false_iff_not, mostBytes, List.length_nil, Nat.mul_one]; omega))⟩, ⟨.inl rfl, Nat.le_refl _⟩⟩, (by first | omega | (simp only [nI, decide_eq_true_eq, decide_eq_false_iff_not, mostBytes, List.length_nil, Nat.mul_one]; omega))⟩, ⟨hq, (by first | omega | (simp only [nI, decide_eq_true_eq, decide_eq_false_iff_not, mostBytes, List.length_nil, Nat.mul_one]; omega))⟩⟩, (fk_of (by omega))⟩)⟩
theorem qERw01 {x : Acts} {n c k : Nat} {A B : Sd} {M N : List Int} {v : VF} (h : At x n k) (hv : ∀ i, DeadV (v i)) (hA : Side A [] (100 * k)) (hB : Side B N (100 * k)) (fB : Full B N) (htw : x.tw (ix k) = true) (hw0 : x.wh (ix k) = 0) (h0 : x.m (ix k) = 0) :
    ∃ tz, Good x n c (k + 1) tz ∧ ∀ rd, Step Try.prog rd (sE x n c) lb (st HER x n c k A B v) (fun e t => e = .normal ∧ t = tz) := by
  have hlt := h.lt
  have hfw := h.few
  have hs := h.short
  have hl := h.len
  have hq := h.mem
  have bA := hA.bound (by omega)
  have bB := hB.bound (by omega)
  have fb1 := fB.a
  have fb2 := fB.pos
  have fb3 := fB.le
  have fb4 := congrArg List.length fB.m1
  have fb5 := hB.len
  exact ⟨_, gER (Vw0_dead hv) (hA.up (by omega)) (side_put h hB (wz_eq h h0)) (full_RZ h h0 fB), fun rd => sERw01 (R := rawN) rd hv ⟨⟨⟨⟨⟨⟨⟨⟨⟨⟨⟨⟨⟨⟨⟨⟨⟨⟨trivial, (by first | omega | (simp only [nI, decide_eq_true_eq, decide_eq_false_iff_not, mostBytes, List.length_nil, Nat.mul_one]; omega))⟩, (by first | omega | (simp only [nI, decide_eq_true_eq, decide_eq_false_iff_not, mostBytes, List.length_nil, Nat.mul_one]; omega))⟩, (by first | omega | (simp only [nI, decide_eq_true_eq, decide_eq_false_iff_not, mostBytes, List.length_nil, Nat.mul_one]; omega))⟩, htw⟩, (by first | omega | (simp only [nI, decide_eq_true_eq, decide_eq_false_iff_not, mostBytes, List.length_nil, Nat.mul_one]; omega))⟩, (w0t hw0)⟩, (by first | omega | (simp only [nI, decide_eq_true_eq, decide_eq_false_iff_not, mostBytes, List.length_nil, Nat.mul_one]; omega))⟩, ⟨hq, (by first | omega | (simp only [nI, decide_eq_true_eq, decide_eq_false_iff_not, mostBytes, List.length_nil, Nat.mul_one]; omega))⟩⟩, (a27 h hB (by omega) (wz_eq h h0) (by omega))⟩, (by rw [h0, row_nil h h0]; simp [layI])⟩, hq⟩, (str_of (wz_eq h h0))⟩, (by first | omega | (simp only [nI, decide_eq_true_eq, decide_eq_false_iff_not, mostBytes, List.length_nil, Nat.mul_one]; omega))⟩, (by first | omega | (simp only [nI, decide_eq_true_eq, decide_eq_false_iff_not, mostBytes, List.length_nil, Nat.mul_one]; omega))⟩, (by first | omega | (simp only [nI, decide_eq_true_eq, decide_eq_false_iff_not, mostBytes, List.length_nil, Nat.mul_one]; omega))⟩, (by first | omega | (simp only [nI, decide_eq_true_eq, decide_eq_false_iff_not, mostBytes, List.length_nil, Nat.mul_one]; omega))⟩, ⟨hq, (by first | omega | (simp only [nI, decide_eq_true_eq, decide_eq_false_iff_not, mostBytes, List.length_nil, Nat.mul_one]; omega))⟩⟩, (fk_of (by omega))⟩⟩
theorem qRRs0 {x : Acts} {n c k : Nat} {A B : Sd} {M N : List Int} {v : VF} (h : At x n k) (hv : ∀ i, DeadV (v i)) (hA : Side A M (100 * k)) (hB : Side B N (100 * k)) (fA : Full A M) (fB : Full B N) (htw : x.tw (ix k) = false) (hw0 : x.wh (ix k) ≠ 0) (hw1 : x.wh (ix k) = 1) :
    ∃ tz, Good x n c (k + 1) tz ∧ ∀ rd, Step Try.prog rd (sE x n c) lb (st HRR x n c k A B v) (fun e t => e = .normal ∧ t = tz) := by
  have hlt := h.lt
  have hfw := h.few
  have hs := h.short
  have hl := h.len
  have hq := h.mem
  have bA := hA.bound (by omega)
  have bB := hB.bound (by omega)
  have fa1 := fA.a
  have fa2 := fA.pos
  have fa3 := fA.le
  have fa4 := congrArg List.length fA.m1
  have fa5 := hA.len
  have fb1 := fB.a
  have fb2 := fB.pos
  have fb3 := fB.le
  have fb4 := congrArg List.length fB.m1
  have fb5 := hB.len
  exact ⟨_, gRR (Vs_dead hv) (hA.up (by omega)) fA (hB.up (by omega)) fB, fun rd => sRRs0 (R := rawN) rd hv ⟨⟨⟨⟨⟨⟨⟨⟨⟨⟨⟨⟨⟨⟨⟨⟨⟨⟨⟨⟨⟨⟨trivial, (by first | omega | (simp only [nI, decide_eq_true_eq, decide_eq_false_iff_not, mostBytes, List.length_nil, Nat.mul_one]; omega))⟩, (by first | omega | (simp only [nI, decide_eq_true_eq, decide_eq_false_iff_not, mostBytes, List.length_nil, Nat.mul_one]; omega))⟩, (by first | omega | (simp only [nI, decide_eq_true_eq, decide_eq_false_iff_not, mostBytes, List.length_nil, Nat.mul_one]; omega))⟩, htw⟩, (by first | omega | (simp only [nI, decide_eq_true_eq, decide_eq_false_iff_not, mostBytes, List.length_nil, Nat.mul_one]; omega))⟩, (w0f hw0)⟩, (w1t hw1)⟩, (by first | omega | (simp only [nI, decide_eq_true_eq, decide_eq_false_iff_not, mostBytes, List.length_nil, Nat.mul_one]; omega))⟩, (q13_of fA hA.byt (by have := hA.len; omega))⟩, (cS_of hA fA.m1)⟩, (cS_of hA fA.m1)⟩, (cS_of hA fA.m1)⟩, (cS_of hA fA.m1)⟩, (cS_of hA fA.m1)⟩, (cS_of hA fA.m1)⟩, (cS_of hA fA.m1)⟩, (cS_of hA fA.m1)⟩, (cS_of hA fA.m1)⟩, (cS_of hA fA.m1)⟩, (cS_of hA fA.m1)⟩, (cD_of hA fA)⟩, (fk_of (by omega))⟩⟩
theorem qRRs1 {x : Acts} {n c k : Nat} {A B : Sd} {M N : List Int} {v : VF} (h : At x n k) (hv : ∀ i, DeadV (v i)) (hA : Side A M (100 * k)) (hB : Side B N (100 * k)) (fA : Full A M) (fB : Full B N) (htw : x.tw (ix k) = true) (hw0 : x.wh (ix k) ≠ 0) (hw1 : x.wh (ix k) = 1) :
    ∃ tz, Good x n c (k + 1) tz ∧ ∀ rd, Step Try.prog rd (sE x n c) lb (st HRR x n c k A B v) (fun e t => e = .normal ∧ t = tz) := by
  have hlt := h.lt
  have hfw := h.few
  have hs := h.short
  have hl := h.len
  have hq := h.mem
  have bA := hA.bound (by omega)
  have bB := hB.bound (by omega)
  have fa1 := fA.a
  have fa2 := fA.pos
  have fa3 := fA.le
  have fa4 := congrArg List.length fA.m1
  have fa5 := hA.len
  have fb1 := fB.a
  have fb2 := fB.pos
  have fb3 := fB.le
  have fb4 := congrArg List.length fB.m1
  have fb5 := hB.len
  exact ⟨_, gRR (Vs_dead hv) (hA.up (by omega)) fA (hB.up (by omega)) fB, fun rd => sRRs1 (R := rawN) rd hv ⟨⟨⟨⟨⟨⟨⟨⟨⟨⟨⟨⟨⟨⟨⟨⟨⟨⟨⟨⟨⟨⟨trivial, (by first | omega | (simp only [nI, decide_eq_true_eq, decide_eq_false_iff_not, mostBytes, List.length_nil, Nat.mul_one]; omega))⟩, (by first | omega | (simp only [nI, decide_eq_true_eq, decide_eq_false_iff_not, mostBytes, List.length_nil, Nat.mul_one]; omega))⟩, (by first | omega | (simp only [nI, decide_eq_true_eq, decide_eq_false_iff_not, mostBytes, List.length_nil, Nat.mul_one]; omega))⟩, htw⟩, (by first | omega | (simp only [nI, decide_eq_true_eq, decide_eq_false_iff_not, mostBytes, List.length_nil, Nat.mul_one]; omega))⟩, (w0f hw0)⟩, (w1t hw1)⟩, (by first | omega | (simp only [nI, decide_eq_true_eq, decide_eq_false_iff_not, mostBytes, List.length_nil, Nat.mul_one]; omega))⟩, (q13_of fB hB.byt (by have := hB.len; omega))⟩, (cS_of hB fB.m1)⟩, (cS_of hB fB.m1)⟩, (cS_of hB fB.m1)⟩, (cS_of hB fB.m1)⟩, (cS_of hB fB.m1)⟩, (cS_of hB fB.m1)⟩, (cS_of hB fB.m1)⟩, (cS_of hB fB.m1)⟩, (cS_of hB fB.m1)⟩, (cS_of hB fB.m1)⟩, (cS_of hB fB.m1)⟩, (cD_of hB fB)⟩, (fk_of (by omega))⟩⟩
theorem qRRc0 {x : Acts} {n c k : Nat} {A B : Sd} {M N : List Int} {v : VF} (h : At x n k) (hv : ∀ i, DeadV (v i)) (hA : Side A M (100 * k)) (hB : Side B N (100 * k)) (fA : Full A M) (fB : Full B N) (htw : x.tw (ix k) = false) (hw0 : x.wh (ix k) ≠ 0) (hw1 : x.wh (ix k) ≠ 1) :
    ∃ tz, Good x n c (k + 1) tz ∧ ∀ rd, Step Try.prog rd (sE x n c) lb (st HRR x n c k A B v) (fun e t => e = .normal ∧ t = tz) := by
  have hlt := h.lt
  have hfw := h.few
  have hs := h.short
  have hl := h.len
  have hq := h.mem
  have bA := hA.bound (by omega)
  have bB := hB.bound (by omega)
  have fa1 := fA.a
  have fa2 := fA.pos
  have fa3 := fA.le
  have fa4 := congrArg List.length fA.m1
  have fa5 := hA.len
  have fb1 := fB.a
  have fb2 := fB.pos
  have fb3 := fB.le
  have fb4 := congrArg List.length fB.m1
  have fb5 := hB.len
  exact ⟨_, gSS (Vc_dead hv) (Side.any (hB.up (by omega)) _ _ _) (Full.any fB _ _) (Side.any (hB.up (by omega)) _ _ _), fun rd => sRRc0 (R := rawN) rd hv ⟨⟨⟨⟨⟨⟨⟨⟨trivial, (by first | omega | (simp only [nI, decide_eq_true_eq, decide_eq_false_iff_not, mostBytes, List.length_nil, Nat.mul_one]; omega))⟩, (by first | omega | (simp only [nI, decide_eq_true_eq, decide_eq_false_iff_not, mostBytes, List.length_nil, Nat.mul_one]; omega))⟩, (by first | omega | (simp only [nI, decide_eq_true_eq, decide_eq_false_iff_not, mostBytes, List.length_nil, Nat.mul_one]; omega))⟩, htw⟩, (by first | omega | (simp only [nI, decide_eq_true_eq, decide_eq_false_iff_not, mostBytes, List.length_nil, Nat.mul_one]; omega))⟩, (w0f hw0)⟩, (w1f hw1)⟩, (fk_of (by omega))⟩⟩
theorem qRRc1 {x : Acts} {n c k : Nat} {A B : Sd} {M N : List Int} {v : VF} (h : At x n k) (hv : ∀ i, DeadV (v i)) (hA : Side A M (100 * k)) (hB : Side B N (100 * k)) (fA : Full A M) (fB : Full B N) (htw : x.tw (ix k) = true) (hw0 : x.wh (ix k) ≠ 0) (hw1 : x.wh (ix k) ≠ 1) :
    ∃ tz, Good x n c (k + 1) tz ∧ ∀ rd, Step Try.prog rd (sE x n c) lb (st HRR x n c k A B v) (fun e t => e = .normal ∧ t = tz) := by
  have hlt := h.lt
  have hfw := h.few
  have hs := h.short
  have hl := h.len
  have hq := h.mem
  have bA := hA.bound (by omega)
  have bB := hB.bound (by omega)
  have fa1 := fA.a
  have fa2 := fA.pos
  have fa3 := fA.le
  have fa4 := congrArg List.length fA.m1
  have fa5 := hA.len
  have fb1 := fB.a
  have fb2 := fB.pos
  have fb3 := fB.le
  have fb4 := congrArg List.length fB.m1
  have fb5 := hB.len
  exact ⟨_, gSS (Vc_dead hv) (Side.any (hA.up (by omega)) _ _ _) (Full.any fA _ _) (Side.any (hA.up (by omega)) _ _ _), fun rd => sRRc1 (R := rawN) rd hv ⟨⟨⟨⟨⟨⟨⟨⟨trivial, (by first | omega | (simp only [nI, decide_eq_true_eq, decide_eq_false_iff_not, mostBytes, List.length_nil, Nat.mul_one]; omega))⟩, (by first | omega | (simp only [nI, decide_eq_true_eq, decide_eq_false_iff_not, mostBytes, List.length_nil, Nat.mul_one]; omega))⟩, (by first | omega | (simp only [nI, decide_eq_true_eq, decide_eq_false_iff_not, mostBytes, List.length_nil, Nat.mul_one]; omega))⟩, htw⟩, (by first | omega | (simp only [nI, decide_eq_true_eq, decide_eq_false_iff_not, mostBytes, List.length_nil, Nat.mul_one]; omega))⟩, (w0f hw0)⟩, (w1f hw1)⟩, (fk_of (by omega))⟩⟩
theorem qRRw10 {x : Acts} {n c k : Nat} {A B : Sd} {M N : List Int} {v : VF} (h : At x n k) (hv : ∀ i, DeadV (v i)) (hA : Side A M (100 * k)) (hB : Side B N (100 * k)) (fA : Full A M) (fB : Full B N) (htw : x.tw (ix k) = false) (hw0 : x.wh (ix k) = 0) (h0 : x.m (ix k) ≠ 0) :
    ∃ tz, Good x n c (k + 1) tz ∧ ∀ rd, Step Try.prog rd (sE x n c) lb (st HRR x n c k A B v) (fun e t => e = .normal ∧ t = tz) := by
  have hlt := h.lt
  have hfw := h.few
  have hs := h.short
  have hl := h.len
  have hq := h.mem
  have bA := hA.bound (by omega)
  have bB := hB.bound (by omega)
  have fa1 := fA.a
  have fa2 := fA.pos
  have fa3 := fA.le
  have fa4 := congrArg List.length fA.m1
  have fa5 := hA.len
  have fb1 := fB.a
  have fb2 := fB.pos
  have fb3 := fB.le
  have fb4 := congrArg List.length fB.m1
  have fb5 := hB.len
  exact ⟨_, gRR (Vw1_dead hv) (side_put h hA (wf_eq h)) (full_RF h fA) (hB.up (by omega)) fB, fun rd => sRRw10 (R := rawN) rd hv ⟨⟨⟨⟨⟨⟨⟨⟨⟨⟨⟨⟨⟨⟨⟨⟨⟨⟨trivial, (by first | omega | (simp only [nI, decide_eq_true_eq, decide_eq_false_iff_not, mostBytes, List.length_nil, Nat.mul_one]; omega))⟩, (by first | omega | (simp only [nI, decide_eq_true_eq, decide_eq_false_iff_not, mostBytes, List.length_nil, Nat.mul_one]; omega))⟩, (by first | omega | (simp only [nI, decide_eq_true_eq, decide_eq_false_iff_not, mostBytes, List.length_nil, Nat.mul_one]; omega))⟩, htw⟩, (by first | omega | (simp only [nI, decide_eq_true_eq, decide_eq_false_iff_not, mostBytes, List.length_nil, Nat.mul_one]; omega))⟩, (w0t hw0)⟩, (by first | omega | (simp only [nI, decide_eq_true_eq, decide_eq_false_iff_not, mostBytes, List.length_nil, Nat.mul_one]; omega))⟩, ⟨hq, (by first | omega | (simp only [nI, decide_eq_true_eq, decide_eq_false_iff_not, mostBytes, List.length_nil, Nat.mul_one]; omega))⟩⟩, (a27 h hA (by omega) (wf_eq h) (by omega))⟩, (by first | omega | (simp only [nI, decide_eq_true_eq, decide_eq_false_iff_not, mostBytes, List.length_nil, Nat.mul_one]; omega))⟩, hq⟩, (str_of (wf_eq h))⟩, (fun rd => loopJ hRR jnRR jxRR joRR x n c k _ _ (Vpre v) 0 (rowx x k) (x.m (ix k)) rfl (by omega) (by omega) hl (Vpre_dead hv) rd)⟩, (by first | omega | (simp only [nI, decide_eq_true_eq, decide_eq_false_iff_not, mostBytes, List.length_nil, Nat.mul_one]; omega))⟩, (by first | omega | (simp only [nI, decide_eq_true_eq, decide_eq_false_iff_not, mostBytes, List.length_nil, Nat.mul_one]; omega))⟩, (by first | omega | (simp only [nI, decide_eq_true_eq, decide_eq_false_iff_not, mostBytes, List.length_nil, Nat.mul_one]; omega))⟩, ⟨hq, (by first | omega | (simp only [nI, decide_eq_true_eq, decide_eq_false_iff_not, mostBytes, List.length_nil, Nat.mul_one]; omega))⟩⟩, (fk_of (by omega))⟩⟩
theorem qRRw11 {x : Acts} {n c k : Nat} {A B : Sd} {M N : List Int} {v : VF} (h : At x n k) (hv : ∀ i, DeadV (v i)) (hA : Side A M (100 * k)) (hB : Side B N (100 * k)) (fA : Full A M) (fB : Full B N) (htw : x.tw (ix k) = true) (hw0 : x.wh (ix k) = 0) (h0 : x.m (ix k) ≠ 0) :
    ∃ tz, Good x n c (k + 1) tz ∧ ∀ rd, Step Try.prog rd (sE x n c) lb (st HRR x n c k A B v) (fun e t => e = .normal ∧ t = tz) := by
  have hlt := h.lt
  have hfw := h.few
  have hs := h.short
  have hl := h.len
  have hq := h.mem
  have bA := hA.bound (by omega)
  have bB := hB.bound (by omega)
  have fa1 := fA.a
  have fa2 := fA.pos
  have fa3 := fA.le
  have fa4 := congrArg List.length fA.m1
  have fa5 := hA.len
  have fb1 := fB.a
  have fb2 := fB.pos
  have fb3 := fB.le
  have fb4 := congrArg List.length fB.m1
  have fb5 := hB.len
  exact ⟨_, gRR (Vw1_dead hv) (hA.up (by omega)) fA (side_put h hB (wf_eq h)) (full_RF h fB), fun rd => sRRw11 (R := rawN) rd hv ⟨⟨⟨⟨⟨⟨⟨⟨⟨⟨⟨⟨⟨⟨⟨⟨⟨⟨trivial, (by first | omega | (simp only [nI, decide_eq_true_eq, decide_eq_false_iff_not, mostBytes, List.length_nil, Nat.mul_one]; omega))⟩, (by first | omega | (simp only [nI, decide_eq_true_eq, decide_eq_false_iff_not, mostBytes, List.length_nil, Nat.mul_one]; omega))⟩, (by first | omega | (simp only [nI, decide_eq_true_eq, decide_eq_false_iff_not, mostBytes, List.length_nil, Nat.mul_one]; omega))⟩, htw⟩, (by first | omega | (simp only [nI, decide_eq_true_eq, decide_eq_false_iff_not, mostBytes, List.length_nil, Nat.mul_one]; omega))⟩, (w0t hw0)⟩, (by first | omega | (simp only [nI, decide_eq_true_eq, decide_eq_false_iff_not, mostBytes, List.length_nil, Nat.mul_one]; omega))⟩, ⟨hq, (by first | omega | (simp only [nI, decide_eq_true_eq, decide_eq_false_iff_not, mostBytes, List.length_nil, Nat.mul_one]; omega))⟩⟩, (a27 h hB (by omega) (wf_eq h) (by omega))⟩, (by first | omega | (simp only [nI, decide_eq_true_eq, decide_eq_false_iff_not, mostBytes, List.length_nil, Nat.mul_one]; omega))⟩, hq⟩, (str_of (wf_eq h))⟩, (fun rd => loopJ hRR jnRR jxRR joRR x n c k _ _ (Vpre v) 1 (rowx x k) (x.m (ix k)) rfl (by omega) (by omega) hl (Vpre_dead hv) rd)⟩, (by first | omega | (simp only [nI, decide_eq_true_eq, decide_eq_false_iff_not, mostBytes, List.length_nil, Nat.mul_one]; omega))⟩, (by first | omega | (simp only [nI, decide_eq_true_eq, decide_eq_false_iff_not, mostBytes, List.length_nil, Nat.mul_one]; omega))⟩, (by first | omega | (simp only [nI, decide_eq_true_eq, decide_eq_false_iff_not, mostBytes, List.length_nil, Nat.mul_one]; omega))⟩, ⟨hq, (by first | omega | (simp only [nI, decide_eq_true_eq, decide_eq_false_iff_not, mostBytes, List.length_nil, Nat.mul_one]; omega))⟩⟩, (fk_of (by omega))⟩⟩
theorem qRRw00 {x : Acts} {n c k : Nat} {A B : Sd} {M N : List Int} {v : VF} (h : At x n k) (hv : ∀ i, DeadV (v i)) (hA : Side A M (100 * k)) (hB : Side B N (100 * k)) (fA : Full A M) (fB : Full B N) (htw : x.tw (ix k) = false) (hw0 : x.wh (ix k) = 0) (h0 : x.m (ix k) = 0) :
    ∃ tz, Good x n c (k + 1) tz ∧ ∀ rd, Step Try.prog rd (sE x n c) lb (st HRR x n c k A B v) (fun e t => e = .normal ∧ t = tz) := by
  have hlt := h.lt
  have hfw := h.few
  have hs := h.short
  have hl := h.len
  have hq := h.mem
  have bA := hA.bound (by omega)
  have bB := hB.bound (by omega)
  have fa1 := fA.a
  have fa2 := fA.pos
  have fa3 := fA.le
  have fa4 := congrArg List.length fA.m1
  have fa5 := hA.len
  have fb1 := fB.a
  have fb2 := fB.pos
  have fb3 := fB.le
  have fb4 := congrArg List.length fB.m1
  have fb5 := hB.len
  exact ⟨_, gRR (Vw0_dead hv) (side_put h hA (wz_eq h h0)) (full_RZ h h0 fA) (hB.up (by omega)) fB, fun rd => sRRw00 (R := rawN) rd hv ⟨⟨⟨⟨⟨⟨⟨⟨⟨⟨⟨⟨⟨⟨⟨⟨⟨⟨trivial, (by first | omega | (simp only [nI, decide_eq_true_eq, decide_eq_false_iff_not, mostBytes, List.length_nil, Nat.mul_one]; omega))⟩, (by first | omega | (simp only [nI, decide_eq_true_eq, decide_eq_false_iff_not, mostBytes, List.length_nil, Nat.mul_one]; omega))⟩, (by first | omega | (simp only [nI, decide_eq_true_eq, decide_eq_false_iff_not, mostBytes, List.length_nil, Nat.mul_one]; omega))⟩, htw⟩, (by first | omega | (simp only [nI, decide_eq_true_eq, decide_eq_false_iff_not, mostBytes, List.length_nil, Nat.mul_one]; omega))⟩, (w0t hw0)⟩, (by first | omega | (simp only [nI, decide_eq_true_eq, decide_eq_false_iff_not, mostBytes, List.length_nil, Nat.mul_one]; omega))⟩, ⟨hq, (by first | omega | (simp only [nI, decide_eq_true_eq, decide_eq_false_iff_not, mostBytes, List.length_nil, Nat.mul_one]; omega))⟩⟩, (a27 h hA (by omega) (wz_eq h h0) (by omega))⟩, (by rw [h0, row_nil h h0]; simp [layI])⟩, hq⟩, (str_of (wz_eq h h0))⟩, (by first | omega | (simp only [nI, decide_eq_true_eq, decide_eq_false_iff_not, mostBytes, List.length_nil, Nat.mul_one]; omega))⟩, (by first | omega | (simp only [nI, decide_eq_true_eq, decide_eq_false_iff_not, mostBytes, List.length_nil, Nat.mul_one]; omega))⟩, (by first | omega | (simp only [nI, decide_eq_true_eq, decide_eq_false_iff_not, mostBytes, List.length_nil, Nat.mul_one]; omega))⟩, (by first | omega | (simp only [nI, decide_eq_true_eq, decide_eq_false_iff_not, mostBytes, List.length_nil, Nat.mul_one]; omega))⟩, ⟨hq, (by first | omega | (simp only [nI, decide_eq_true_eq, decide_eq_false_iff_not, mostBytes, List.length_nil, Nat.mul_one]; omega))⟩⟩, (fk_of (by omega))⟩⟩
theorem qRRw01 {x : Acts} {n c k : Nat} {A B : Sd} {M N : List Int} {v : VF} (h : At x n k) (hv : ∀ i, DeadV (v i)) (hA : Side A M (100 * k)) (hB : Side B N (100 * k)) (fA : Full A M) (fB : Full B N) (htw : x.tw (ix k) = true) (hw0 : x.wh (ix k) = 0) (h0 : x.m (ix k) = 0) :
    ∃ tz, Good x n c (k + 1) tz ∧ ∀ rd, Step Try.prog rd (sE x n c) lb (st HRR x n c k A B v) (fun e t => e = .normal ∧ t = tz) := by
  have hlt := h.lt
  have hfw := h.few
  have hs := h.short
  have hl := h.len
  have hq := h.mem
  have bA := hA.bound (by omega)
  have bB := hB.bound (by omega)
  have fa1 := fA.a
  have fa2 := fA.pos
  have fa3 := fA.le
  have fa4 := congrArg List.length fA.m1
  have fa5 := hA.len
  have fb1 := fB.a
  have fb2 := fB.pos
  have fb3 := fB.le
  have fb4 := congrArg List.length fB.m1
  have fb5 := hB.len
  exact ⟨_, gRR (Vw0_dead hv) (hA.up (by omega)) fA (side_put h hB (wz_eq h h0)) (full_RZ h h0 fB), fun rd => sRRw01 (R := rawN) rd hv ⟨⟨⟨⟨⟨⟨⟨⟨⟨⟨⟨⟨⟨⟨⟨⟨⟨⟨trivial, (by first | omega | (simp only [nI, decide_eq_true_eq, decide_eq_false_iff_not, mostBytes, List.length_nil, Nat.mul_one]; omega))⟩, (by first | omega | (simp only [nI, decide_eq_true_eq, decide_eq_false_iff_not, mostBytes, List.length_nil, Nat.mul_one]; omega))⟩, (by first | omega | (simp only [nI, decide_eq_true_eq, decide_eq_false_iff_not, mostBytes, List.length_nil, Nat.mul_one]; omega))⟩, htw⟩, (by first | omega | (simp only [nI, decide_eq_true_eq, decide_eq_false_iff_not, mostBytes, List.length_nil, Nat.mul_one]; omega))⟩, (w0t hw0)⟩, (by first | omega | (simp only [nI, decide_eq_true_eq, decide_eq_false_iff_not, mostBytes, List.length_nil, Nat.mul_one]; omega))⟩, ⟨hq, (by first | omega | (simp only [nI, decide_eq_true_eq, decide_eq_false_iff_not, mostBytes, List.length_nil, Nat.mul_one]; omega))⟩⟩, (a27 h hB (by omega) (wz_eq h h0) (by omega))⟩, (by rw [h0, row_nil h h0]; simp [layI])⟩, hq⟩, (str_of (wz_eq h h0))⟩, (by first | omega | (simp only [nI, decide_eq_true_eq, decide_eq_false_iff_not, mostBytes, List.length_nil, Nat.mul_one]; omega))⟩, (by first | omega | (simp only [nI, decide_eq_true_eq, decide_eq_false_iff_not, mostBytes, List.length_nil, Nat.mul_one]; omega))⟩, (by first | omega | (simp only [nI, decide_eq_true_eq, decide_eq_false_iff_not, mostBytes, List.length_nil, Nat.mul_one]; omega))⟩, (by first | omega | (simp only [nI, decide_eq_true_eq, decide_eq_false_iff_not, mostBytes, List.length_nil, Nat.mul_one]; omega))⟩, ⟨hq, (by first | omega | (simp only [nI, decide_eq_true_eq, decide_eq_false_iff_not, mostBytes, List.length_nil, Nat.mul_one]; omega))⟩⟩, (fk_of (by omega))⟩⟩
theorem qSSs0 {x : Acts} {n c k : Nat} {A B : Sd} {M N : List Int} {v : VF} (h : At x n k) (hv : ∀ i, DeadV (v i)) (hA : Side A M (100 * k)) (hB : Side B M (100 * k)) (fA : Full A M) (htw : x.tw (ix k) = false) (hw0 : x.wh (ix k) ≠ 0) (hw1 : x.wh (ix k) = 1) :
    ∃ tz, Good x n c (k + 1) tz ∧ ∀ rd, Step Try.prog rd (sE x n c) lb (st HSS x n c k A B v) (fun e t => e = .normal ∧ t = tz) := by
  have hlt := h.lt
  have hfw := h.few
  have hs := h.short
  have hl := h.len
  have hq := h.mem
  have bA := hA.bound (by omega)
  have bB := hB.bound (by omega)
  have fa1 := fA.a
  have fa2 := fA.pos
  have fa3 := fA.le
  have fa4 := congrArg List.length fA.m1
  have fa5 := hA.len
  exact ⟨_, gSS (Vs_dead hv) (hA.up (by omega)) fA (hB.up (by omega)), fun rd => sSSs0 (R := rawN) rd hv ⟨⟨⟨⟨⟨⟨⟨⟨⟨⟨⟨⟨⟨⟨⟨⟨⟨⟨⟨⟨⟨⟨trivial, (by first | omega | (simp only [nI, decide_eq_true_eq, decide_eq_false_iff_not, mostBytes, List.length_nil, Nat.mul_one]; omega))⟩, (by first | omega | (simp only [nI, decide_eq_true_eq, decide_eq_false_iff_not, mostBytes, List.length_nil, Nat.mul_one]; omega))⟩, (by first | omega | (simp only [nI, decide_eq_true_eq, decide_eq_false_iff_not, mostBytes, List.length_nil, Nat.mul_one]; omega))⟩, htw⟩, (by first | omega | (simp only [nI, decide_eq_true_eq, decide_eq_false_iff_not, mostBytes, List.length_nil, Nat.mul_one]; omega))⟩, (w0f hw0)⟩, (w1t hw1)⟩, (by first | omega | (simp only [nI, decide_eq_true_eq, decide_eq_false_iff_not, mostBytes, List.length_nil, Nat.mul_one]; omega))⟩, (q13_of fA hA.byt (by have := hA.len; omega))⟩, (cS_of hA fA.m1)⟩, (cS_of hA fA.m1)⟩, (cS_of hA fA.m1)⟩, (cS_of hA fA.m1)⟩, (cS_of hA fA.m1)⟩, (cS_of hA fA.m1)⟩, (cS_of hA fA.m1)⟩, (cS_of hA fA.m1)⟩, (cS_of hA fA.m1)⟩, (cS_of hA fA.m1)⟩, (cS_of hA fA.m1)⟩, (cD_of hA fA)⟩, (fk_of (by omega))⟩⟩
theorem qSSs1 {x : Acts} {n c k : Nat} {A B : Sd} {M N : List Int} {v : VF} (h : At x n k) (hv : ∀ i, DeadV (v i)) (hA : Side A M (100 * k)) (hB : Side B M (100 * k)) (fA : Full A M) (htw : x.tw (ix k) = true) (hw0 : x.wh (ix k) ≠ 0) (hw1 : x.wh (ix k) = 1) :
    ∃ tz, Good x n c (k + 1) tz ∧ ∀ rd, Step Try.prog rd (sE x n c) lb (st HSS x n c k A B v) (fun e t => e = .normal ∧ t = tz) := by
  have hlt := h.lt
  have hfw := h.few
  have hs := h.short
  have hl := h.len
  have hq := h.mem
  have bA := hA.bound (by omega)
  have bB := hB.bound (by omega)
  have fa1 := fA.a
  have fa2 := fA.pos
  have fa3 := fA.le
  have fa4 := congrArg List.length fA.m1
  have fa5 := hA.len
  exact ⟨_, gSS (Vs_dead hv) (hA.up (by omega)) fA (hB.up (by omega)), fun rd => sSSs1 (R := rawN) rd hv ⟨⟨⟨⟨⟨⟨⟨⟨⟨⟨⟨⟨⟨⟨⟨⟨⟨⟨⟨⟨⟨⟨trivial, (by first | omega | (simp only [nI, decide_eq_true_eq, decide_eq_false_iff_not, mostBytes, List.length_nil, Nat.mul_one]; omega))⟩, (by first | omega | (simp only [nI, decide_eq_true_eq, decide_eq_false_iff_not, mostBytes, List.length_nil, Nat.mul_one]; omega))⟩, (by first | omega | (simp only [nI, decide_eq_true_eq, decide_eq_false_iff_not, mostBytes, List.length_nil, Nat.mul_one]; omega))⟩, htw⟩, (by first | omega | (simp only [nI, decide_eq_true_eq, decide_eq_false_iff_not, mostBytes, List.length_nil, Nat.mul_one]; omega))⟩, (w0f hw0)⟩, (w1t hw1)⟩, (by first | omega | (simp only [nI, decide_eq_true_eq, decide_eq_false_iff_not, mostBytes, List.length_nil, Nat.mul_one]; omega))⟩, (q13_of fA hA.byt (by have := hA.len; omega))⟩, (cS_of hB fA.m1)⟩, (cS_of hB fA.m1)⟩, (cS_of hB fA.m1)⟩, (cS_of hB fA.m1)⟩, (cS_of hB fA.m1)⟩, (cS_of hB fA.m1)⟩, (cS_of hB fA.m1)⟩, (cS_of hB fA.m1)⟩, (cS_of hB fA.m1)⟩, (cS_of hB fA.m1)⟩, (cS_of hB fA.m1)⟩, (cD_of hB fA)⟩, (fk_of (by omega))⟩⟩
theorem qSSc0 {x : Acts} {n c k : Nat} {A B : Sd} {M N : List Int} {v : VF} (h : At x n k) (hv : ∀ i, DeadV (v i)) (hA : Side A M (100 * k)) (hB : Side B M (100 * k)) (fA : Full A M) (htw : x.tw (ix k) = false) (hw0 : x.wh (ix k) ≠ 0) (hw1 : x.wh (ix k) ≠ 1) :
    ∃ tz, Good x n c (k + 1) tz ∧ ∀ rd, Step Try.prog rd (sE x n c) lb (st HSS x n c k A B v) (fun e t => e = .normal ∧ t = tz) := by
  have hlt := h.lt
  have hfw := h.few
  have hs := h.short
  have hl := h.len
  have hq := h.mem
  have bA := hA.bound (by omega)
  have bB := hB.bound (by omega)
  have fa1 := fA.a
  have fa2 := fA.pos
  have fa3 := fA.le
  have fa4 := congrArg List.length fA.m1
  have fa5 := hA.len
  exact ⟨_, gSS (Vc_dead hv) (Side.any (hB.up (by omega)) _ _ _) (Full.any fA _ _) (Side.any (hB.up (by omega)) _ _ _), fun rd => sSSc0 (R := rawN) rd hv ⟨⟨⟨⟨⟨⟨⟨⟨trivial, (by first | omega | (simp only [nI, decide_eq_true_eq, decide_eq_false_iff_not, mostBytes, List.length_nil, Nat.mul_one]; omega))⟩, (by first | omega | (simp only [nI, decide_eq_true_eq, decide_eq_false_iff_not, mostBytes, List.length_nil, Nat.mul_one]; omega))⟩, (by first | omega | (simp only [nI, decide_eq_true_eq, decide_eq_false_iff_not, mostBytes, List.length_nil, Nat.mul_one]; omega))⟩, htw⟩, (by first | omega | (simp only [nI, decide_eq_true_eq, decide_eq_false_iff_not, mostBytes, List.length_nil, Nat.mul_one]; omega))⟩, (w0f hw0)⟩, (w1f hw1)⟩, (fk_of (by omega))⟩⟩
theorem qSSc1 {x : Acts} {n c k : Nat} {A B : Sd} {M N : List Int} {v : VF} (h : At x n k) (hv : ∀ i, DeadV (v i)) (hA : Side A M (100 * k)) (hB : Side B M (100 * k)) (fA : Full A M) (htw : x.tw (ix k) = true) (hw0 : x.wh (ix k) ≠ 0) (hw1 : x.wh (ix k) ≠ 1) :
    ∃ tz, Good x n c (k + 1) tz ∧ ∀ rd, Step Try.prog rd (sE x n c) lb (st HSS x n c k A B v) (fun e t => e = .normal ∧ t = tz) := by
  have hlt := h.lt
  have hfw := h.few
  have hs := h.short
  have hl := h.len
  have hq := h.mem
  have bA := hA.bound (by omega)
  have bB := hB.bound (by omega)
  have fa1 := fA.a
  have fa2 := fA.pos
  have fa3 := fA.le
  have fa4 := congrArg List.length fA.m1
  have fa5 := hA.len
  exact ⟨_, gSS (Vc_dead hv) (Side.any (hA.up (by omega)) _ _ _) (Full.any fA _ _) (Side.any (hA.up (by omega)) _ _ _), fun rd => sSSc1 (R := rawN) rd hv ⟨⟨⟨⟨⟨⟨⟨⟨trivial, (by first | omega | (simp only [nI, decide_eq_true_eq, decide_eq_false_iff_not, mostBytes, List.length_nil, Nat.mul_one]; omega))⟩, (by first | omega | (simp only [nI, decide_eq_true_eq, decide_eq_false_iff_not, mostBytes, List.length_nil, Nat.mul_one]; omega))⟩, (by first | omega | (simp only [nI, decide_eq_true_eq, decide_eq_false_iff_not, mostBytes, List.length_nil, Nat.mul_one]; omega))⟩, htw⟩, (by first | omega | (simp only [nI, decide_eq_true_eq, decide_eq_false_iff_not, mostBytes, List.length_nil, Nat.mul_one]; omega))⟩, (w0f hw0)⟩, (w1f hw1)⟩, (fk_of (by omega))⟩⟩
theorem qSSw10 {x : Acts} {n c k : Nat} {A B : Sd} {M N : List Int} {v : VF} (h : At x n k) (hv : ∀ i, DeadV (v i)) (hA : Side A M (100 * k)) (hB : Side B M (100 * k)) (fA : Full A M) (htw : x.tw (ix k) = false) (hw0 : x.wh (ix k) = 0) (h0 : x.m (ix k) ≠ 0) :
    ∃ tz, Good x n c (k + 1) tz ∧ ∀ rd, Step Try.prog rd (sE x n c) lb (st HSS x n c k A B v) (fun e t => e = .normal ∧ t = tz) := by
  have hlt := h.lt
  have hfw := h.few
  have hs := h.short
  have hl := h.len
  have hq := h.mem
  have bA := hA.bound (by omega)
  have bB := hB.bound (by omega)
  have fa1 := fA.a
  have fa2 := fA.pos
  have fa3 := fA.le
  have fa4 := congrArg List.length fA.m1
  have fa5 := hA.len
  exact ⟨_, gRR (Vw1_dead hv) (side_put h hA (wf_eq h)) (full_RF h fA) (Side.any (hB.up (by omega)) _ _ _) (Full.any fA _ _), fun rd => sSSw10 (R := rawN) rd hv ⟨⟨⟨⟨⟨⟨⟨⟨⟨⟨⟨⟨⟨⟨⟨⟨⟨⟨trivial, (by first | omega | (simp only [nI, decide_eq_true_eq, decide_eq_false_iff_not, mostBytes, List.length_nil, Nat.mul_one]; omega))⟩, (by first | omega | (simp only [nI, decide_eq_true_eq, decide_eq_false_iff_not, mostBytes, List.length_nil, Nat.mul_one]; omega))⟩, (by first | omega | (simp only [nI, decide_eq_true_eq, decide_eq_false_iff_not, mostBytes, List.length_nil, Nat.mul_one]; omega))⟩, htw⟩, (by first | omega | (simp only [nI, decide_eq_true_eq, decide_eq_false_iff_not, mostBytes, List.length_nil, Nat.mul_one]; omega))⟩, (w0t hw0)⟩, (by first | omega | (simp only [nI, decide_eq_true_eq, decide_eq_false_iff_not, mostBytes, List.length_nil, Nat.mul_one]; omega))⟩, ⟨hq, (by first | omega | (simp only [nI, decide_eq_true_eq, decide_eq_false_iff_not, mostBytes, List.length_nil, Nat.mul_one]; omega))⟩⟩, (a27 h hA (by omega) (wf_eq h) (by omega))⟩, (by first | omega | (simp only [nI, decide_eq_true_eq, decide_eq_false_iff_not, mostBytes, List.length_nil, Nat.mul_one]; omega))⟩, hq⟩, (str_of (wf_eq h))⟩, (fun rd => loopJ hSS jnSS jxSS joSS x n c k _ _ (Vpre v) 0 (rowx x k) (x.m (ix k)) rfl (by omega) (by omega) hl (Vpre_dead hv) rd)⟩, (by first | omega | (simp only [nI, decide_eq_true_eq, decide_eq_false_iff_not, mostBytes, List.length_nil, Nat.mul_one]; omega))⟩, (by first | omega | (simp only [nI, decide_eq_true_eq, decide_eq_false_iff_not, mostBytes, List.length_nil, Nat.mul_one]; omega))⟩, (by first | omega | (simp only [nI, decide_eq_true_eq, decide_eq_false_iff_not, mostBytes, List.length_nil, Nat.mul_one]; omega))⟩, ⟨hq, (by first | omega | (simp only [nI, decide_eq_true_eq, decide_eq_false_iff_not, mostBytes, List.length_nil, Nat.mul_one]; omega))⟩⟩, (fk_of (by omega))⟩⟩
theorem qSSw11 {x : Acts} {n c k : Nat} {A B : Sd} {M N : List Int} {v : VF} (h : At x n k) (hv : ∀ i, DeadV (v i)) (hA : Side A M (100 * k)) (hB : Side B M (100 * k)) (fA : Full A M) (htw : x.tw (ix k) = true) (hw0 : x.wh (ix k) = 0) (h0 : x.m (ix k) ≠ 0) :
    ∃ tz, Good x n c (k + 1) tz ∧ ∀ rd, Step Try.prog rd (sE x n c) lb (st HSS x n c k A B v) (fun e t => e = .normal ∧ t = tz) := by
  have hlt := h.lt
  have hfw := h.few
  have hs := h.short
  have hl := h.len
  have hq := h.mem
  have bA := hA.bound (by omega)
  have bB := hB.bound (by omega)
  have fa1 := fA.a
  have fa2 := fA.pos
  have fa3 := fA.le
  have fa4 := congrArg List.length fA.m1
  have fa5 := hA.len
  exact ⟨_, gRR (Vw1_dead hv) (Side.any (hA.up (by omega)) _ _ _) (Full.any fA _ _) (side_put h hB (wf_eq h)) (full_RF h fA), fun rd => sSSw11 (R := rawN) rd hv ⟨⟨⟨⟨⟨⟨⟨⟨⟨⟨⟨⟨⟨⟨⟨⟨⟨⟨trivial, (by first | omega | (simp only [nI, decide_eq_true_eq, decide_eq_false_iff_not, mostBytes, List.length_nil, Nat.mul_one]; omega))⟩, (by first | omega | (simp only [nI, decide_eq_true_eq, decide_eq_false_iff_not, mostBytes, List.length_nil, Nat.mul_one]; omega))⟩, (by first | omega | (simp only [nI, decide_eq_true_eq, decide_eq_false_iff_not, mostBytes, List.length_nil, Nat.mul_one]; omega))⟩, htw⟩, (by first | omega | (simp only [nI, decide_eq_true_eq, decide_eq_false_iff_not, mostBytes, List.length_nil, Nat.mul_one]; omega))⟩, (w0t hw0)⟩, (by first | omega | (simp only [nI, decide_eq_true_eq, decide_eq_false_iff_not, mostBytes, List.length_nil, Nat.mul_one]; omega))⟩, ⟨hq, (by first | omega | (simp only [nI, decide_eq_true_eq, decide_eq_false_iff_not, mostBytes, List.length_nil, Nat.mul_one]; omega))⟩⟩, (a27 h hB (by omega) (wf_eq h) (by omega))⟩, (by first | omega | (simp only [nI, decide_eq_true_eq, decide_eq_false_iff_not, mostBytes, List.length_nil, Nat.mul_one]; omega))⟩, hq⟩, (str_of (wf_eq h))⟩, (fun rd => loopJ hSS jnSS jxSS joSS x n c k _ _ (Vpre v) 1 (rowx x k) (x.m (ix k)) rfl (by omega) (by omega) hl (Vpre_dead hv) rd)⟩, (by first | omega | (simp only [nI, decide_eq_true_eq, decide_eq_false_iff_not, mostBytes, List.length_nil, Nat.mul_one]; omega))⟩, (by first | omega | (simp only [nI, decide_eq_true_eq, decide_eq_false_iff_not, mostBytes, List.length_nil, Nat.mul_one]; omega))⟩, (by first | omega | (simp only [nI, decide_eq_true_eq, decide_eq_false_iff_not, mostBytes, List.length_nil, Nat.mul_one]; omega))⟩, ⟨hq, (by first | omega | (simp only [nI, decide_eq_true_eq, decide_eq_false_iff_not, mostBytes, List.length_nil, Nat.mul_one]; omega))⟩⟩, (fk_of (by omega))⟩⟩
theorem qSSw00 {x : Acts} {n c k : Nat} {A B : Sd} {M N : List Int} {v : VF} (h : At x n k) (hv : ∀ i, DeadV (v i)) (hA : Side A M (100 * k)) (hB : Side B M (100 * k)) (fA : Full A M) (htw : x.tw (ix k) = false) (hw0 : x.wh (ix k) = 0) (h0 : x.m (ix k) = 0) :
    ∃ tz, Good x n c (k + 1) tz ∧ ∀ rd, Step Try.prog rd (sE x n c) lb (st HSS x n c k A B v) (fun e t => e = .normal ∧ t = tz) := by
  have hlt := h.lt
  have hfw := h.few
  have hs := h.short
  have hl := h.len
  have hq := h.mem
  have bA := hA.bound (by omega)
  have bB := hB.bound (by omega)
  have fa1 := fA.a
  have fa2 := fA.pos
  have fa3 := fA.le
  have fa4 := congrArg List.length fA.m1
  have fa5 := hA.len
  exact ⟨_, gRR (Vw0_dead hv) (side_put h hA (wz_eq h h0)) (full_RZ h h0 fA) (Side.any (hB.up (by omega)) _ _ _) (Full.any fA _ _), fun rd => sSSw00 (R := rawN) rd hv ⟨⟨⟨⟨⟨⟨⟨⟨⟨⟨⟨⟨⟨⟨⟨⟨⟨⟨trivial, (by first | omega | (simp only [nI, decide_eq_true_eq, decide_eq_false_iff_not, mostBytes, List.length_nil, Nat.mul_one]; omega))⟩, (by first | omega | (simp only [nI, decide_eq_true_eq, decide_eq_false_iff_not, mostBytes, List.length_nil, Nat.mul_one]; omega))⟩, (by first | omega | (simp only [nI, decide_eq_true_eq, decide_eq_false_iff_not, mostBytes, List.length_nil, Nat.mul_one]; omega))⟩, htw⟩, (by first | omega | (simp only [nI, decide_eq_true_eq, decide_eq_false_iff_not, mostBytes, List.length_nil, Nat.mul_one]; omega))⟩, (w0t hw0)⟩, (by first | omega | (simp only [nI, decide_eq_true_eq, decide_eq_false_iff_not, mostBytes, List.length_nil, Nat.mul_one]; omega))⟩, ⟨hq, (by first | omega | (simp only [nI, decide_eq_true_eq, decide_eq_false_iff_not, mostBytes, List.length_nil, Nat.mul_one]; omega))⟩⟩, (a27 h hA (by omega) (wz_eq h h0) (by omega))⟩, (by rw [h0, row_nil h h0]; simp [layI])⟩, hq⟩, (str_of (wz_eq h h0))⟩, (by first | omega | (simp only [nI, decide_eq_true_eq, decide_eq_false_iff_not, mostBytes, List.length_nil, Nat.mul_one]; omega))⟩, (by first | omega | (simp only [nI, decide_eq_true_eq, decide_eq_false_iff_not, mostBytes, List.length_nil, Nat.mul_one]; omega))⟩, (by first | omega | (simp only [nI, decide_eq_true_eq, decide_eq_false_iff_not, mostBytes, List.length_nil, Nat.mul_one]; omega))⟩, (by first | omega | (simp only [nI, decide_eq_true_eq, decide_eq_false_iff_not, mostBytes, List.length_nil, Nat.mul_one]; omega))⟩, ⟨hq, (by first | omega | (simp only [nI, decide_eq_true_eq, decide_eq_false_iff_not, mostBytes, List.length_nil, Nat.mul_one]; omega))⟩⟩, (fk_of (by omega))⟩⟩
theorem qSSw01 {x : Acts} {n c k : Nat} {A B : Sd} {M N : List Int} {v : VF} (h : At x n k) (hv : ∀ i, DeadV (v i)) (hA : Side A M (100 * k)) (hB : Side B M (100 * k)) (fA : Full A M) (htw : x.tw (ix k) = true) (hw0 : x.wh (ix k) = 0) (h0 : x.m (ix k) = 0) :
    ∃ tz, Good x n c (k + 1) tz ∧ ∀ rd, Step Try.prog rd (sE x n c) lb (st HSS x n c k A B v) (fun e t => e = .normal ∧ t = tz) := by
  have hlt := h.lt
  have hfw := h.few
  have hs := h.short
  have hl := h.len
  have hq := h.mem
  have bA := hA.bound (by omega)
  have bB := hB.bound (by omega)
  have fa1 := fA.a
  have fa2 := fA.pos
  have fa3 := fA.le
  have fa4 := congrArg List.length fA.m1
  have fa5 := hA.len
  exact ⟨_, gRR (Vw0_dead hv) (Side.any (hA.up (by omega)) _ _ _) (Full.any fA _ _) (side_put h hB (wz_eq h h0)) (full_RZ h h0 fA), fun rd => sSSw01 (R := rawN) rd hv ⟨⟨⟨⟨⟨⟨⟨⟨⟨⟨⟨⟨⟨⟨⟨⟨⟨⟨trivial, (by first | omega | (simp only [nI, decide_eq_true_eq, decide_eq_false_iff_not, mostBytes, List.length_nil, Nat.mul_one]; omega))⟩, (by first | omega | (simp only [nI, decide_eq_true_eq, decide_eq_false_iff_not, mostBytes, List.length_nil, Nat.mul_one]; omega))⟩, (by first | omega | (simp only [nI, decide_eq_true_eq, decide_eq_false_iff_not, mostBytes, List.length_nil, Nat.mul_one]; omega))⟩, htw⟩, (by first | omega | (simp only [nI, decide_eq_true_eq, decide_eq_false_iff_not, mostBytes, List.length_nil, Nat.mul_one]; omega))⟩, (w0t hw0)⟩, (by first | omega | (simp only [nI, decide_eq_true_eq, decide_eq_false_iff_not, mostBytes, List.length_nil, Nat.mul_one]; omega))⟩, ⟨hq, (by first | omega | (simp only [nI, decide_eq_true_eq, decide_eq_false_iff_not, mostBytes, List.length_nil, Nat.mul_one]; omega))⟩⟩, (a27 h hB (by omega) (wz_eq h h0) (by omega))⟩, (by rw [h0, row_nil h h0]; simp [layI])⟩, hq⟩, (str_of (wz_eq h h0))⟩, (by first | omega | (simp only [nI, decide_eq_true_eq, decide_eq_false_iff_not, mostBytes, List.length_nil, Nat.mul_one]; omega))⟩, (by first | omega | (simp only [nI, decide_eq_true_eq, decide_eq_false_iff_not, mostBytes, List.length_nil, Nat.mul_one]; omega))⟩, (by first | omega | (simp only [nI, decide_eq_true_eq, decide_eq_false_iff_not, mostBytes, List.length_nil, Nat.mul_one]; omega))⟩, (by first | omega | (simp only [nI, decide_eq_true_eq, decide_eq_false_iff_not, mostBytes, List.length_nil, Nat.mul_one]; omega))⟩, ⟨hq, (by first | omega | (simp only [nI, decide_eq_true_eq, decide_eq_false_iff_not, mostBytes, List.length_nil, Nat.mul_one]; omega))⟩⟩, (fk_of (by omega))⟩⟩
end
end sp
end Go.Proofs.Yteknepfcbpoooab
