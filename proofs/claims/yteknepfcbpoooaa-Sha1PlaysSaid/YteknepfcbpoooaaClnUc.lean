/- Read off the code by the clean reading. -/
import Derived.Test.YteknepfcbpoooaaClnUb
set_option linter.unusedVariables false
set_option linter.unusedSimpArgs false
set_option linter.deprecated false
set_option maxRecDepth 100000
namespace Go.Proofs.Yteknepfcbpoooaa
open Go.ChangeShapes Go.WideShapes Go.ChangeAt Go.RowKit Go.Cln
namespace sq
set_option linter.unusedVariables false
noncomputable section
structure At (x : Acts) (n k : Nat) : Prop where
  lt : k < n
  few : n ≤ 30
  short : x.m (ix k) ≤ 600
  len : (rowx x k).length = x.m (ix k)
  byt : hx.Byt (rowx x k)
  mem : x.m (ix k) = 0 ∨ 0 + x.m (ix k) ≤ (x.D (x.Q (ix k))).length
theorem At.of {x : Acts} {n k : Nat} (h : x.Ok n) (hk : k < n) (hn : n ≤ 30) (hm : x.m k ≤ 600) : At x n k := by
  have e : rowx x k = x.by k := by unfold rowx Acts.by; rw [ix_eq, List.drop_zero]
  have hl := h.len k hk
  refine ⟨hk, hn, by rw [ix_eq]; exact hm, by rw [e, ix_eq]; exact hl, by rw [e]; exact h.byte k hk, ?_⟩
  unfold Acts.by at hl
  rw [List.length_take] at hl
  rw [ix_eq]; omega
structure Full (A : Sd) (M : List Int) : Prop where
  a : A.a = M.length
  take : A.L.take A.a = M
  le : A.a ≤ A.L.length
  pos : 0 < A.a
theorem Full.m1 {A : Sd} {M : List Int} (h : Full A M) : m1 A = M := by unfold sq.m1; rw [List.drop_zero]; exact h.take
theorem Full.any {A : Sd} {M : List Int} (h : Full A M) (y0 : hz.HS) (y1 : Int) : Full ⟨y0, y1, A.L, A.a, A.q⟩ M := ⟨h.a, h.take, h.le, h.pos⟩
theorem wf_eq {x : Acts} {n k : Nat} (h : At x n k) : wf x k = rowx x k := by
  unfold wf; rw [List.drop_zero]; exact List.take_of_length_le (by rw [h.len]; omega)
theorem row_nil {x : Acts} {n k : Nat} (h : At x n k) (h0 : x.m (ix k) = 0) : rowx x k = [] := List.eq_nil_of_length_eq_zero (by rw [h.len]; exact h0)
theorem wz_eq {x : Acts} {n k : Nat} (h : At x n k) (h0 : x.m (ix k) = 0) : wz x k = rowx x k := by
  unfold wz; rw [h0, row_nil h h0]; rfl
theorem str_of {x : Acts} {k : Nat} {w : List Int} (e : w = rowx x k) : (!(beqB (bytesI w).toList (bytesI (rowx x k)).toList)) = false := by
  rw [beqB_of e]; rfl
theorem full_RF {x : Acts} {n k : Nat} {O : Sd} {M : List Int} {y0 : hz.HS} {y1 : Int} {q : Nat} (h : At x n k) (hO : Full O M) : Full ⟨y0, y1, List.take (0 + O.a) (List.drop 0 (m1 O)) ++ rowx x k, 0 + O.a + x.m (ix k), q⟩ (M ++ rowx x k) := by
  have hl := h.len
  have ha := hO.a
  have hp := hO.pos
  have e : List.take (0 + O.a) (List.drop 0 (m1 O)) = M := by rw [hO.m1, List.drop_zero]; exact List.take_of_length_le (by omega)
  refine ⟨?_, ?_, ?_, show 0 < 0 + O.a + x.m (ix k) by omega⟩
  · show 0 + O.a + x.m (ix k) = _
    rw [List.length_append]; omega
  · show (List.take (0 + O.a) (List.drop 0 (m1 O)) ++ rowx x k).take (0 + O.a + x.m (ix k)) = _
    rw [e]; exact List.take_of_length_le (by rw [List.length_append]; omega)
  · show 0 + O.a + x.m (ix k) ≤ (List.take (0 + O.a) (List.drop 0 (m1 O)) ++ rowx x k).length
    rw [e, List.length_append]; omega
theorem full_RZ {x : Acts} {n k : Nat} {O : Sd} {M : List Int} {y0 : hz.HS} {y1 : Int} {q : Nat} (h : At x n k) (h0 : x.m (ix k) = 0) (hO : Full O M) : Full ⟨y0, y1, layI (m1 O) (0 + (0 + O.a)) (rowx x k), 0 + O.a + x.m (ix k), q⟩ (M ++ rowx x k) := by
  have ha := hO.a
  have hp := hO.pos
  have e : layI (m1 O) (0 + (0 + O.a)) (rowx x k) = M := by
    rw [row_nil h h0, hO.m1]
    unfold layI
    simp
  refine ⟨?_, ?_, ?_, show 0 < 0 + O.a + x.m (ix k) by omega⟩
  · show 0 + O.a + x.m (ix k) = _
    rw [row_nil h h0, List.append_nil]; omega
  · show (layI (m1 O) (0 + (0 + O.a)) (rowx x k)).take (0 + O.a + x.m (ix k)) = _
    rw [e, row_nil h h0, List.append_nil]; exact List.take_of_length_le (by omega)
  · show 0 + O.a + x.m (ix k) ≤ (layI (m1 O) (0 + (0 + O.a)) (rowx x k)).length
    rw [e]; omega
theorem full_EF {x : Acts} {n k : Nat} {y0 : hz.HS} {y1 : Int} {q : Nat} (h : At x n k) (h0 : x.m (ix k) ≠ 0) : Full ⟨y0, y1, rowx x k, 0 + 0 + x.m (ix k), q⟩ ([] ++ rowx x k) := by
  have hl := h.len
  refine ⟨?_, ?_, ?_, show 0 < 0 + 0 + x.m (ix k) by omega⟩
  · show 0 + 0 + x.m (ix k) = _
    rw [List.nil_append]; omega
  · show (rowx x k).take (0 + 0 + x.m (ix k)) = _
    rw [List.nil_append]; exact List.take_of_length_le (by omega)
  · show 0 + 0 + x.m (ix k) ≤ (rowx x k).length
    omega
theorem at70 (h : hz.HS) (z : Int) : intAt (hz.cH h z) 70 = z := by kernel_rfl
theorem at64 (h : hz.HS) (z : Int) : intAt (hz.cH h z) 64 = h.rn := by kernel_rfl
structure Side (A : Sd) (M : List Int) (K : Nat) : Prop where
  sem : hz.SemH A.h M
  size : A.z = (M.length : Int)
  byt : hx.Byt M
  len : M.length ≤ K
theorem Side.up {A : Sd} {M : List Int} {K K' : Nat} (h : Side A M K) (hK : K ≤ K') : Side A M K' := ⟨h.sem, h.size, h.byt, Nat.le_trans h.len hK⟩
theorem Side.any {A : Sd} {M : List Int} {K : Nat} (h : Side A M K) (L : List Int) (a q : Nat) : Side ⟨A.h, A.z, L, a, q⟩ M K := ⟨h.sem, h.size, h.byt, h.len⟩
theorem Side.bound {A : Sd} {M : List Int} {K : Nat} (h : Side A M K) (hK : K ≤ 100000) : 0 ≤ A.z ∧ A.z ≤ 100000 := by
  have := h.len
  rw [h.size]; omega
theorem side0 : Side z0 [] (600 * 0) := ⟨⟨rfl, rfl, fun j hj => by simp at hj⟩, rfl, (fun _ h => by cases h), Nat.le_refl _⟩
theorem rn64 {A : Sd} {M : List Int} {K : Nat} (h : Side A M K) : A.h.rn = ((M.length % 64 : Nat) : Int) := h.sem.rn
theorem a22 {x : Acts} {n k : Nat} {A : Sd} {M w : List Int} {K c : Nat} (h : At x n k) (hA : Side A M K) (e : w = rowx x k) (hc : 0 + x.m (ix k) ≤ c) : ask22 hz.AB A w (0 + x.m (ix k)) c := by
  have hr := rn64 hA
  subst e
  unfold ask22
  rw [at64, hr]
  exact ⟨rfl, by omega, by omega, by rw [h.len]; omega, hc⟩
theorem a23 {A : Sd} {M : List Int} {K : Nat} (hA : Side A M K) (hK : K ≤ 100000) : ask23 hz.DS A := by
  have hr := rn64 hA
  have hb := hA.bound hK
  unfold ask23
  rw [at64, at70, hr, hA.size]
  have := hA.len
  refine ⟨rfl, by omega, by omega, by simp⟩
theorem q12_of {O : Sd} {M : List Int} (h : Full O M) (hl : M.length ≤ 100000) : q12 hz.shaN (m1 O) O.a := by
  have hp := h.pos
  have ha := h.a
  exact ⟨rfl, by rw [h.m1]; exact ha, hp, by omega⟩
theorem sum_at {A : Sd} {M : List Int} {K : Nat} (hA : Side A M K) : hz.DS (hz.hOf (hz.cH A.h A.z)) (intAt (hz.cH A.h A.z) 70).toNat = hz.shaN M := by
  have := (hA.sem.cells A.z).DS hA.byt
  rw [at70, hA.size, Int.toNat_natCast]
  rw [hA.size] at this
  exact this
theorem sum_of {A O : Sd} {M : List Int} {K : Nat} (hA : Side A M K) (e : m1 O = M) : hz.DS (hz.hOf (hz.cH A.h A.z)) (intAt (hz.cH A.h A.z) 70).toNat = hz.shaN (m1 O) := by rw [e]; exact sum_at hA
theorem sum_nil {A : Sd} {K : Nat} (hA : Side A [] K) : hz.DS (hz.hOf (hz.cH A.h A.z)) (intAt (hz.cH A.h A.z) 70).toNat = hz.shaN [] := sum_at hA
theorem cq {X Y : sw.N5} (e : X = Y) (f : sw.N5 → Int) (j : Nat) : (hy.by8 (f X) j == hy.by8 (f Y) j) = true := by rw [e]; exact beq_self_eq_true _
theorem cD_of {A O : Sd} {M : List Int} {K : Nat} (h : Side A M K) (e : Full O M) : (A.z != nI O.a) = false := by
  rw [h.size, e.a]; exact bne_self_eq_false _
theorem cD_nil {A : Sd} {K : Nat} (h : Side A [] K) : (A.z != 0) = false := by
  rw [h.size]; rfl
theorem side_put {x : Acts} {n k : Nat} {A : Sd} {M w L : List Int} {a q : Nat} {K : Nat} (h : At x n k) (hA : Side A M K) (hK : K ≤ 100000) (e : w = rowx x k) :
    Side ⟨hz.AB w (hz.hOf (hz.cH A.h A.z)), IntKind.i64.wrap (intAt (hz.cH A.h A.z) 70 + ((0 + x.m (ix k) : Nat) : Int)), L, a, q⟩ (M ++ rowx x k) (K + 600) := by
  have hs := h.short
  have hl := h.len
  have hM := hA.len
  subst e
  refine ⟨(hA.sem.cells A.z).AB hA.byt h.byt, ?_, fun y hy => ?_, by rw [List.length_append]; omega⟩
  · show IntKind.i64.wrap (intAt (hz.cH A.h A.z) 70 + ((0 + x.m (ix k) : Nat) : Int)) = _
    rw [at70, hA.size, List.length_append, hl, IntKind.wrap_i64]; omega
  · rcases List.mem_append.1 hy with hy | hy
    · exact hA.byt y hy
    · exact h.byt y hy
def Good (x : Acts) (n c k : Nat) (t : St) : Prop := ∃ (A B : Sd) (M N : List Int) (v : VF), (∀ i, DeadV (v i)) ∧ Side A M (600 * k) ∧ Side B N (600 * k) ∧
  ((M = [] ∧ N = [] ∧ t = st HEE x n c k A B v) ∨ (Full A M ∧ N = [] ∧ t = st HRE x n c k A B v) ∨ (M = [] ∧ Full B N ∧ t = st HER x n c k A B v) ∨ (Full A M ∧ Full B N ∧ t = st HRR x n c k A B v) ∨ (Full A M ∧ N = M ∧ t = st HSS x n c k A B v))
theorem gEE {x : Acts} {n c k : Nat} {A B : Sd} {v : VF} (hv : ∀ i, DeadV (v i)) (hA : Side A [] (600 * k)) (hB : Side B [] (600 * k)) : Good x n c k (st HEE x n c k A B v) := ⟨A, B, _, _, v, hv, hA, hB, .inl ⟨rfl, rfl, rfl⟩⟩
theorem gRE {x : Acts} {n c k : Nat} {A B : Sd} {M : List Int} {v : VF} (hv : ∀ i, DeadV (v i)) (hA : Side A M (600 * k)) (fA : Full A M) (hB : Side B [] (600 * k)) : Good x n c k (st HRE x n c k A B v) := ⟨A, B, _, _, v, hv, hA, hB, .inr (.inl ⟨fA, rfl, rfl⟩)⟩
theorem gER {x : Acts} {n c k : Nat} {A B : Sd} {N : List Int} {v : VF} (hv : ∀ i, DeadV (v i)) (hA : Side A [] (600 * k)) (hB : Side B N (600 * k)) (fB : Full B N) : Good x n c k (st HER x n c k A B v) := ⟨A, B, _, _, v, hv, hA, hB, .inr (.inr (.inl ⟨rfl, fB, rfl⟩))⟩
theorem gRR {x : Acts} {n c k : Nat} {A B : Sd} {M N : List Int} {v : VF} (hv : ∀ i, DeadV (v i)) (hA : Side A M (600 * k)) (fA : Full A M) (hB : Side B N (600 * k)) (fB : Full B N) : Good x n c k (st HRR x n c k A B v) := ⟨A, B, _, _, v, hv, hA, hB, .inr (.inr (.inr (.inl ⟨fA, fB, rfl⟩)))⟩
theorem gSS {x : Acts} {n c k : Nat} {A B : Sd} {M : List Int} {v : VF} (hv : ∀ i, DeadV (v i)) (hA : Side A M (600 * k)) (fA : Full A M) (hB : Side B M (600 * k)) : Good x n c k (st HSS x n c k A B v) := ⟨A, B, _, _, v, hv, hA, hB, .inr (.inr (.inr (.inr ⟨fA, rfl, rfl⟩)))⟩
theorem w0t {x : Acts} {k : Nat} (h : x.wh (ix k) = 0) : (x.wh (ix k) == 0) = true := by rw [h]; rfl
theorem w0f {x : Acts} {k : Nat} (h : x.wh (ix k) ≠ 0) : (x.wh (ix k) == 0) = false := by simpa using h
theorem w1t {x : Acts} {k : Nat} (h : x.wh (ix k) = 1) : (x.wh (ix k) == 1) = true := by rw [h]; rfl
theorem w1f {x : Acts} {k : Nat} (h : x.wh (ix k) ≠ 1) : (x.wh (ix k) == 1) = false := by simpa using h
theorem fk_of {k : Nat} (h : k < 1000) : fk k := by unfold fk; simp only [nI]; rw [IntKind.wrap_i64]; omega
theorem wk_of {T : List Value} {f g : Nat → Option Ob} (h : ∀ (b : Nat) (o2 : Ob), g b = some o2 → ∃ o, f b = some o ∧ (o = o2 ∨ ∃ (l l2 : List Value) (t : TypeId), o = .cells (.lit l) t ∧ o2 = .cells (.lit l2) t ∧ ∀ (i : Nat) (x : Value), l2[i]? = some x → ∃ y, l[i]? = some y ∧ (y = x ∨ x = E0 ∧ ∃ a, y = .slice a 0 0)))
    (h01 : ∀ b, b < 2 → g b = f b) : Wk ⟨T, [], Tr.rebuild f 12, 12, 2, [], fun _ => false, True, []⟩ ⟨T, [], Tr.rebuild g 12, 12, 2, [], fun _ => false, True, []⟩ where
  next := rfl
  roB := rfl
  ro := rfl
  hid := rfl
  defers := rfl
  tmps := rfl
  zero := ⟨(by decide : 0 < 12), rfl⟩
  heap b o2 hb := by
    obtain ⟨h1, h2⟩ := heap_at (by omega) hb
    obtain ⟨o, h3, h4⟩ := h b o2 h2
    refine ⟨o, ?_, h4⟩
    show (Tr.rebuild f 12).get b = some o
    rw [Tr.get_rebuild f 12 b (by omega), if_pos h1]; exact h3
  same b hm := by
    have hb : b < 2 := by
      rcases Nat.lt_or_ge b 2 with h | h
      · exact h
      · have : (decide (2 ≤ b) && !([] : List Nat).contains b) = false := hm
        simp at this; omega
    show (Tr.rebuild g 12).get b = (Tr.rebuild f 12).get b
    rw [Tr.get_rebuild f 12 b (by omega), Tr.get_rebuild g 12 b (by omega), if_pos (by omega), if_pos (by omega), h01 b hb]
theorem wk_HH {T : List Value} {x : Acts} {n : Nat} {A B : Sd} {u u2 w w2 : Value} {o8 o9 : Option Ob} (hu : u = u2 ∨ u2 = E0 ∧ ∃ a, u = .slice a 0 0) (hw : w = w2 ∨ w2 = E0 ∧ ∃ a, w = .slice a 0 0) :
    Wk ⟨T, [], Tr.rebuild (HH x n A B u w o8 o9) 12, 12, 2, [], fun _ => false, True, []⟩ ⟨T, [], Tr.rebuild (HH x n A B u2 w2 o8 o9) 12, 12, 2, [], fun _ => false, True, []⟩ := by
  refine wk_of (fun b o2 hb => ?_) (fun b hb => ?_)
  · by_cases h5 : b = 7
    · subst h5
      cases hb
      refine ⟨_, rfl, .inr ⟨_, _, _, rfl, rfl, fun i z hz => ?_⟩⟩
      match i, hz with
      | 0, hz => cases hz; exact ⟨u, rfl, hu⟩
      | 1, hz => cases hz; exact ⟨w, rfl, hw⟩
      | i + 2, hz => simp at hz
    · refine ⟨o2, ?_, .inl rfl⟩
      rw [← hb]
      unfold HH
      split <;> first | rfl | (exfalso; exact h5 rfl)
  · match b, hb with
    | 0, _ => rfl
    | 1, _ => rfl
    | b + 2, hb => omega
theorem zl0 (b : Nat) {z : Nat} (h : z = 0) : zl b z = E0 ∨ E0 = E0 ∧ ∃ a, zl b z = .slice a 0 0 := .inr ⟨rfl, _, by rw [h]; rfl⟩
end
end sq
end Go.Proofs.Yteknepfcbpoooaa
namespace Go.Proofs.Yteknepfcbpoooaa
open Go.ChangeShapes Go.WideShapes Go.ChangeAt Go.RowKit Go.Cln
namespace sq
set_option linter.unusedVariables false
noncomputable section
theorem qEEs0 {x : Acts} {n c k : Nat} {A B : Sd} {M N : List Int} {v : VF} (h : At x n k) (hv : ∀ i, DeadV (v i)) (hA : Side A [] (600 * k)) (hB : Side B [] (600 * k)) (htw : x.tw (ix k) = false) (hw0 : x.wh (ix k) ≠ 0) (hw1 : x.wh (ix k) = 1) :
    ∃ tz, Good x n c (k + 1) tz ∧ ∀ rd, Step Try.prog rd (sE x n c) lb (st HEE x n c k A B v) (fun e t => e = .normal ∧ t = tz) := by
  have hlt := h.lt
  have hfw := h.few
  have hs := h.short
  have hl := h.len
  have hq := h.mem
  have bA := hA.bound (by omega)
  have bB := hB.bound (by omega)
  exact ⟨_, gEE (Vs_dead hv) (hA.up (by omega)) (hB.up (by omega)), fun rd => sEEs0 (Aw := hz.AB) (Dw := hz.DS) (R := hz.shaN) rd hv ⟨⟨⟨⟨⟨⟨⟨⟨⟨⟨⟨⟨⟨⟨⟨⟨⟨⟨⟨⟨⟨⟨⟨⟨⟨⟨⟨⟨⟨⟨trivial, (by first | omega | (simp only [nI, decide_eq_true_eq, decide_eq_false_iff_not, mostBytes, List.length_nil, Nat.mul_one]; omega))⟩, (by first | omega | (simp only [nI, decide_eq_true_eq, decide_eq_false_iff_not, mostBytes, List.length_nil, Nat.mul_one]; omega))⟩, (by first | omega | (simp only [nI, decide_eq_true_eq, decide_eq_false_iff_not, mostBytes, List.length_nil, Nat.mul_one]; omega))⟩, htw⟩, (w0f hw0)⟩, (w1t hw1)⟩, (a23 hA (by omega))⟩, ⟨rfl, rfl⟩⟩, (cq (sum_nil hA) sw.N5.a 3)⟩, (cq (sum_nil hA) sw.N5.a 2)⟩, (cq (sum_nil hA) sw.N5.a 1)⟩, (cq (sum_nil hA) sw.N5.a 0)⟩, (cq (sum_nil hA) sw.N5.b 3)⟩, (cq (sum_nil hA) sw.N5.b 2)⟩, (cq (sum_nil hA) sw.N5.b 1)⟩, (cq (sum_nil hA) sw.N5.b 0)⟩, (cq (sum_nil hA) sw.N5.c 3)⟩, (cq (sum_nil hA) sw.N5.c 2)⟩, (cq (sum_nil hA) sw.N5.c 1)⟩, (cq (sum_nil hA) sw.N5.c 0)⟩, (cq (sum_nil hA) sw.N5.d 3)⟩, (cq (sum_nil hA) sw.N5.d 2)⟩, (cq (sum_nil hA) sw.N5.d 1)⟩, (cq (sum_nil hA) sw.N5.d 0)⟩, (cq (sum_nil hA) sw.N5.e 3)⟩, (cq (sum_nil hA) sw.N5.e 2)⟩, (cq (sum_nil hA) sw.N5.e 1)⟩, (cq (sum_nil hA) sw.N5.e 0)⟩, (cD_nil hA)⟩, (fk_of (by omega))⟩⟩
theorem qEEs1 {x : Acts} {n c k : Nat} {A B : Sd} {M N : List Int} {v : VF} (h : At x n k) (hv : ∀ i, DeadV (v i)) (hA : Side A [] (600 * k)) (hB : Side B [] (600 * k)) (htw : x.tw (ix k) = true) (hw0 : x.wh (ix k) ≠ 0) (hw1 : x.wh (ix k) = 1) :
    ∃ tz, Good x n c (k + 1) tz ∧ ∀ rd, Step Try.prog rd (sE x n c) lb (st HEE x n c k A B v) (fun e t => e = .normal ∧ t = tz) := by
  have hlt := h.lt
  have hfw := h.few
  have hs := h.short
  have hl := h.len
  have hq := h.mem
  have bA := hA.bound (by omega)
  have bB := hB.bound (by omega)
  exact ⟨_, gEE (Vs_dead hv) (hA.up (by omega)) (hB.up (by omega)), fun rd => sEEs1 (Aw := hz.AB) (Dw := hz.DS) (R := hz.shaN) rd hv ⟨⟨⟨⟨⟨⟨⟨⟨⟨⟨⟨⟨⟨⟨⟨⟨⟨⟨⟨⟨⟨⟨⟨⟨⟨⟨⟨⟨⟨⟨trivial, (by first | omega | (simp only [nI, decide_eq_true_eq, decide_eq_false_iff_not, mostBytes, List.length_nil, Nat.mul_one]; omega))⟩, (by first | omega | (simp only [nI, decide_eq_true_eq, decide_eq_false_iff_not, mostBytes, List.length_nil, Nat.mul_one]; omega))⟩, (by first | omega | (simp only [nI, decide_eq_true_eq, decide_eq_false_iff_not, mostBytes, List.length_nil, Nat.mul_one]; omega))⟩, htw⟩, (w0f hw0)⟩, (w1t hw1)⟩, (a23 hB (by omega))⟩, ⟨rfl, rfl⟩⟩, (cq (sum_nil hB) sw.N5.a 3)⟩, (cq (sum_nil hB) sw.N5.a 2)⟩, (cq (sum_nil hB) sw.N5.a 1)⟩, (cq (sum_nil hB) sw.N5.a 0)⟩, (cq (sum_nil hB) sw.N5.b 3)⟩, (cq (sum_nil hB) sw.N5.b 2)⟩, (cq (sum_nil hB) sw.N5.b 1)⟩, (cq (sum_nil hB) sw.N5.b 0)⟩, (cq (sum_nil hB) sw.N5.c 3)⟩, (cq (sum_nil hB) sw.N5.c 2)⟩, (cq (sum_nil hB) sw.N5.c 1)⟩, (cq (sum_nil hB) sw.N5.c 0)⟩, (cq (sum_nil hB) sw.N5.d 3)⟩, (cq (sum_nil hB) sw.N5.d 2)⟩, (cq (sum_nil hB) sw.N5.d 1)⟩, (cq (sum_nil hB) sw.N5.d 0)⟩, (cq (sum_nil hB) sw.N5.e 3)⟩, (cq (sum_nil hB) sw.N5.e 2)⟩, (cq (sum_nil hB) sw.N5.e 1)⟩, (cq (sum_nil hB) sw.N5.e 0)⟩, (cD_nil hB)⟩, (fk_of (by omega))⟩⟩
theorem qEEc0 {x : Acts} {n c k : Nat} {A B : Sd} {M N : List Int} {v : VF} (h : At x n k) (hv : ∀ i, DeadV (v i)) (hA : Side A [] (600 * k)) (hB : Side B [] (600 * k)) (htw : x.tw (ix k) = false) (hw0 : x.wh (ix k) ≠ 0) (hw1 : x.wh (ix k) ≠ 1) :
    ∃ tz, Good x n c (k + 1) tz ∧ ∀ rd, Step Try.prog rd (sE x n c) lb (st HEE x n c k A B v) (fun e t => e = .normal ∧ t = tz) := by
  have hlt := h.lt
  have hfw := h.few
  have hs := h.short
  have hl := h.len
  have hq := h.mem
  have bA := hA.bound (by omega)
  have bB := hB.bound (by omega)
  exact ⟨_, gEE (Vc_dead hv) (Side.any (hB.up (by omega)) _ _ _) (hB.up (by omega)), fun rd => sEEc0 (Aw := hz.AB) (Dw := hz.DS) (R := hz.shaN) rd hv ⟨⟨⟨⟨⟨⟨⟨trivial, (by first | omega | (simp only [nI, decide_eq_true_eq, decide_eq_false_iff_not, mostBytes, List.length_nil, Nat.mul_one]; omega))⟩, (by first | omega | (simp only [nI, decide_eq_true_eq, decide_eq_false_iff_not, mostBytes, List.length_nil, Nat.mul_one]; omega))⟩, (by first | omega | (simp only [nI, decide_eq_true_eq, decide_eq_false_iff_not, mostBytes, List.length_nil, Nat.mul_one]; omega))⟩, htw⟩, (w0f hw0)⟩, (w1f hw1)⟩, (fk_of (by omega))⟩⟩
theorem qEEc1 {x : Acts} {n c k : Nat} {A B : Sd} {M N : List Int} {v : VF} (h : At x n k) (hv : ∀ i, DeadV (v i)) (hA : Side A [] (600 * k)) (hB : Side B [] (600 * k)) (htw : x.tw (ix k) = true) (hw0 : x.wh (ix k) ≠ 0) (hw1 : x.wh (ix k) ≠ 1) :
    ∃ tz, Good x n c (k + 1) tz ∧ ∀ rd, Step Try.prog rd (sE x n c) lb (st HEE x n c k A B v) (fun e t => e = .normal ∧ t = tz) := by
  have hlt := h.lt
  have hfw := h.few
  have hs := h.short
  have hl := h.len
  have hq := h.mem
  have bA := hA.bound (by omega)
  have bB := hB.bound (by omega)
  exact ⟨_, gEE (Vc_dead hv) (hA.up (by omega)) (Side.any (hA.up (by omega)) _ _ _), fun rd => sEEc1 (Aw := hz.AB) (Dw := hz.DS) (R := hz.shaN) rd hv ⟨⟨⟨⟨⟨⟨⟨trivial, (by first | omega | (simp only [nI, decide_eq_true_eq, decide_eq_false_iff_not, mostBytes, List.length_nil, Nat.mul_one]; omega))⟩, (by first | omega | (simp only [nI, decide_eq_true_eq, decide_eq_false_iff_not, mostBytes, List.length_nil, Nat.mul_one]; omega))⟩, (by first | omega | (simp only [nI, decide_eq_true_eq, decide_eq_false_iff_not, mostBytes, List.length_nil, Nat.mul_one]; omega))⟩, htw⟩, (w0f hw0)⟩, (w1f hw1)⟩, (fk_of (by omega))⟩⟩
theorem qEEw10 {x : Acts} {n c k : Nat} {A B : Sd} {M N : List Int} {v : VF} (h : At x n k) (hv : ∀ i, DeadV (v i)) (hA : Side A [] (600 * k)) (hB : Side B [] (600 * k)) (htw : x.tw (ix k) = false) (hw0 : x.wh (ix k) = 0) (h0 : x.m (ix k) ≠ 0) :
    ∃ tz, Good x n c (k + 1) tz ∧ ∀ rd, Step Try.prog rd (sE x n c) lb (st HEE x n c k A B v) (fun e t => e = .normal ∧ t = tz) := by
  have hlt := h.lt
  have hfw := h.few
  have hs := h.short
  have hl := h.len
  have hq := h.mem
  have bA := hA.bound (by omega)
  have bB := hB.bound (by omega)
  exact ⟨_, gRE (Vw1_dead hv) (side_put (K := 600 * k) h hA (by omega) (wf_eq h)) (full_EF h h0) (hB.up (by omega)), fun rd => sEEw10 (Aw := hz.AB) (Dw := hz.DS) (R := hz.shaN) rd hv ⟨⟨⟨⟨⟨⟨⟨⟨⟨⟨⟨⟨⟨⟨⟨⟨trivial, (by first | omega | (simp only [nI, decide_eq_true_eq, decide_eq_false_iff_not, mostBytes, List.length_nil, Nat.mul_one]; omega))⟩, (by first | omega | (simp only [nI, decide_eq_true_eq, decide_eq_false_iff_not, mostBytes, List.length_nil, Nat.mul_one]; omega))⟩, (by first | omega | (simp only [nI, decide_eq_true_eq, decide_eq_false_iff_not, mostBytes, List.length_nil, Nat.mul_one]; omega))⟩, htw⟩, (w0t hw0)⟩, (by first | omega | (simp only [nI, decide_eq_true_eq, decide_eq_false_iff_not, mostBytes, List.length_nil, Nat.mul_one]; omega))⟩, ⟨hq, (by first | omega | (simp only [nI, decide_eq_true_eq, decide_eq_false_iff_not, mostBytes, List.length_nil, Nat.mul_one]; omega))⟩⟩, (a22 h hA (wf_eq h) (by omega))⟩, (by first | omega | (simp only [nI, decide_eq_true_eq, decide_eq_false_iff_not, mostBytes, List.length_nil, Nat.mul_one]; omega))⟩, hq⟩, (str_of (wf_eq h))⟩, (fun rd => loopJ hEE jnEE jxEE joEE x n c k _ _ (Vpre v) 0 (rowx x k) (x.m (ix k)) rfl (by omega) (by omega) hl (Vpre_dead hv) rd)⟩, ⟨.inl rfl, Nat.le_refl _⟩⟩, (by first | omega | (simp only [nI, decide_eq_true_eq, decide_eq_false_iff_not, mostBytes, List.length_nil, Nat.mul_one]; omega))⟩, ⟨hq, (by first | omega | (simp only [nI, decide_eq_true_eq, decide_eq_false_iff_not, mostBytes, List.length_nil, Nat.mul_one]; omega))⟩⟩, (fk_of (by omega))⟩⟩
theorem qEEw11 {x : Acts} {n c k : Nat} {A B : Sd} {M N : List Int} {v : VF} (h : At x n k) (hv : ∀ i, DeadV (v i)) (hA : Side A [] (600 * k)) (hB : Side B [] (600 * k)) (htw : x.tw (ix k) = true) (hw0 : x.wh (ix k) = 0) (h0 : x.m (ix k) ≠ 0) :
    ∃ tz, Good x n c (k + 1) tz ∧ ∀ rd, Step Try.prog rd (sE x n c) lb (st HEE x n c k A B v) (fun e t => e = .normal ∧ t = tz) := by
  have hlt := h.lt
  have hfw := h.few
  have hs := h.short
  have hl := h.len
  have hq := h.mem
  have bA := hA.bound (by omega)
  have bB := hB.bound (by omega)
  exact ⟨_, gER (Vw1_dead hv) (hA.up (by omega)) (side_put (K := 600 * k) h hB (by omega) (wf_eq h)) (full_EF h h0), fun rd => sEEw11 (Aw := hz.AB) (Dw := hz.DS) (R := hz.shaN) rd hv ⟨⟨⟨⟨⟨⟨⟨⟨⟨⟨⟨⟨⟨⟨⟨⟨trivial, (by first | omega | (simp only [nI, decide_eq_true_eq, decide_eq_false_iff_not, mostBytes, List.length_nil, Nat.mul_one]; omega))⟩, (by first | omega | (simp only [nI, decide_eq_true_eq, decide_eq_false_iff_not, mostBytes, List.length_nil, Nat.mul_one]; omega))⟩, (by first | omega | (simp only [nI, decide_eq_true_eq, decide_eq_false_iff_not, mostBytes, List.length_nil, Nat.mul_one]; omega))⟩, htw⟩, (w0t hw0)⟩, (by first | omega | (simp only [nI, decide_eq_true_eq, decide_eq_false_iff_not, mostBytes, List.length_nil, Nat.mul_one]; omega))⟩, ⟨hq, (by first | omega | (simp only [nI, decide_eq_true_eq, decide_eq_false_iff_not, mostBytes, List.length_nil, Nat.mul_one]; omega))⟩⟩, (a22 h hB (wf_eq h) (by omega))⟩, (by first | omega | (simp only [nI, decide_eq_true_eq, decide_eq_false_iff_not, mostBytes, List.length_nil, Nat.mul_one]; omega))⟩, hq⟩, (str_of (wf_eq h))⟩, (fun rd => loopJ hEE jnEE jxEE joEE x n c k _ _ (Vpre v) 1 (rowx x k) (x.m (ix k)) rfl (by omega) (by omega) hl (Vpre_dead hv) rd)⟩, ⟨.inl rfl, Nat.le_refl _⟩⟩, (by first | omega | (simp only [nI, decide_eq_true_eq, decide_eq_false_iff_not, mostBytes, List.length_nil, Nat.mul_one]; omega))⟩, ⟨hq, (by first | omega | (simp only [nI, decide_eq_true_eq, decide_eq_false_iff_not, mostBytes, List.length_nil, Nat.mul_one]; omega))⟩⟩, (fk_of (by omega))⟩⟩
theorem qEEw00 {x : Acts} {n c k : Nat} {A B : Sd} {M N : List Int} {v : VF} (h : At x n k) (hv : ∀ i, DeadV (v i)) (hA : Side A [] (600 * k)) (hB : Side B [] (600 * k)) (htw : x.tw (ix k) = false) (hw0 : x.wh (ix k) = 0) (h0 : x.m (ix k) = 0) :
    ∃ tz, Good x n c (k + 1) tz ∧ ∀ rd, Step Try.prog rd (sE x n c) lb (st HEE x n c k A B v) (fun e t => e = .normal ∧ t = tz) := by
  have hlt := h.lt
  have hfw := h.few
  have hs := h.short
  have hl := h.len
  have hq := h.mem
  have bA := hA.bound (by omega)
  have bB := hB.bound (by omega)
  exact ⟨_, gEE (Vw0_dead hv) (by have := side_put (K := 600 * k) (L := A.L) (a := A.a) (q := A.q) h hA (by omega) (wz_eq h h0); rw [row_nil h h0, List.append_nil] at this; exact this) (hB.up (by omega)), fun rd => Step.weaken (t2 := st HEE x n c (k + 1) (⟨hz.AB (wz x k) (hz.hOf (hz.cH A.h A.z)), IntKind.i64.wrap (intAt (hz.cH A.h A.z) 70 + ((0 + x.m (ix k) : Nat) : Int)), A.L, A.a, A.q⟩) B (Vw0 v)) (wk_HH (zl0 10 (by omega)) (.inl rfl)) (sEEw00 (Aw := hz.AB) (Dw := hz.DS) (R := hz.shaN) rd hv ⟨⟨⟨⟨⟨⟨⟨⟨⟨⟨⟨⟨⟨⟨⟨⟨trivial, (by first | omega | (simp only [nI, decide_eq_true_eq, decide_eq_false_iff_not, mostBytes, List.length_nil, Nat.mul_one]; omega))⟩, (by first | omega | (simp only [nI, decide_eq_true_eq, decide_eq_false_iff_not, mostBytes, List.length_nil, Nat.mul_one]; omega))⟩, (by first | omega | (simp only [nI, decide_eq_true_eq, decide_eq_false_iff_not, mostBytes, List.length_nil, Nat.mul_one]; omega))⟩, htw⟩, (w0t hw0)⟩, (by first | omega | (simp only [nI, decide_eq_true_eq, decide_eq_false_iff_not, mostBytes, List.length_nil, Nat.mul_one]; omega))⟩, ⟨hq, (by first | omega | (simp only [nI, decide_eq_true_eq, decide_eq_false_iff_not, mostBytes, List.length_nil, Nat.mul_one]; omega))⟩⟩, (a22 h hA (wz_eq h h0) (by omega))⟩, (by rw [h0, row_nil h h0]; simp [layI])⟩, hq⟩, (str_of (wz_eq h h0))⟩, (by first | omega | (simp only [nI, decide_eq_true_eq, decide_eq_false_iff_not, mostBytes, List.length_nil, Nat.mul_one]; omega))⟩, ⟨.inl rfl, Nat.le_refl _⟩⟩, (by first | omega | (simp only [nI, decide_eq_true_eq, decide_eq_false_iff_not, mostBytes, List.length_nil, Nat.mul_one]; omega))⟩, ⟨hq, (by first | omega | (simp only [nI, decide_eq_true_eq, decide_eq_false_iff_not, mostBytes, List.length_nil, Nat.mul_one]; omega))⟩⟩, (fk_of (by omega))⟩)⟩
theorem qEEw01 {x : Acts} {n c k : Nat} {A B : Sd} {M N : List Int} {v : VF} (h : At x n k) (hv : ∀ i, DeadV (v i)) (hA : Side A [] (600 * k)) (hB : Side B [] (600 * k)) (htw : x.tw (ix k) = true) (hw0 : x.wh (ix k) = 0) (h0 : x.m (ix k) = 0) :
    ∃ tz, Good x n c (k + 1) tz ∧ ∀ rd, Step Try.prog rd (sE x n c) lb (st HEE x n c k A B v) (fun e t => e = .normal ∧ t = tz) := by
  have hlt := h.lt
  have hfw := h.few
  have hs := h.short
  have hl := h.len
  have hq := h.mem
  have bA := hA.bound (by omega)
  have bB := hB.bound (by omega)
  exact ⟨_, gEE (Vw0_dead hv) (hA.up (by omega)) (by have := side_put (K := 600 * k) (L := B.L) (a := B.a) (q := B.q) h hB (by omega) (wz_eq h h0); rw [row_nil h h0, List.append_nil] at this; exact this), fun rd => Step.weaken (t2 := st HEE x n c (k + 1) A (⟨hz.AB (wz x k) (hz.hOf (hz.cH B.h B.z)), IntKind.i64.wrap (intAt (hz.cH B.h B.z) 70 + ((0 + x.m (ix k) : Nat) : Int)), B.L, B.a, B.q⟩) (Vw0 v)) (wk_HH (.inl rfl) (zl0 11 (by omega))) (sEEw01 (Aw := hz.AB) (Dw := hz.DS) (R := hz.shaN) rd hv ⟨⟨⟨⟨⟨⟨⟨⟨⟨⟨⟨⟨⟨⟨⟨⟨trivial, (by first | omega | (simp only [nI, decide_eq_true_eq, decide_eq_false_iff_not, mostBytes, List.length_nil, Nat.mul_one]; omega))⟩, (by first | omega | (simp only [nI, decide_eq_true_eq, decide_eq_false_iff_not, mostBytes, List.length_nil, Nat.mul_one]; omega))⟩, (by first | omega | (simp only [nI, decide_eq_true_eq, decide_eq_false_iff_not, mostBytes, List.length_nil, Nat.mul_one]; omega))⟩, htw⟩, (w0t hw0)⟩, (by first | omega | (simp only [nI, decide_eq_true_eq, decide_eq_false_iff_not, mostBytes, List.length_nil, Nat.mul_one]; omega))⟩, ⟨hq, (by first | omega | (simp only [nI, decide_eq_true_eq, decide_eq_false_iff_not, mostBytes, List.length_nil, Nat.mul_one]; omega))⟩⟩, (a22 h hB (wz_eq h h0) (by omega))⟩, (by rw [h0, row_nil h h0]; simp [layI])⟩, hq⟩, (str_of (wz_eq h h0))⟩, (by first | omega | (simp only [nI, decide_eq_true_eq, decide_eq_false_iff_not, mostBytes, List.length_nil, Nat.mul_one]; omega))⟩, ⟨.inl rfl, Nat.le_refl _⟩⟩, (by first | omega | (simp only [nI, decide_eq_true_eq, decide_eq_false_iff_not, mostBytes, List.length_nil, Nat.mul_one]; omega))⟩, ⟨hq, (by first | omega | (simp only [nI, decide_eq_true_eq, decide_eq_false_iff_not, mostBytes, List.length_nil, Nat.mul_one]; omega))⟩⟩, (fk_of (by omega))⟩)⟩
theorem qREs0 {x : Acts} {n c k : Nat} {A B : Sd} {M N : List Int} {v : VF} (h : At x n k) (hv : ∀ i, DeadV (v i)) (hA : Side A M (600 * k)) (hB : Side B [] (600 * k)) (fA : Full A M) (htw : x.tw (ix k) = false) (hw0 : x.wh (ix k) ≠ 0) (hw1 : x.wh (ix k) = 1) :
    ∃ tz, Good x n c (k + 1) tz ∧ ∀ rd, Step Try.prog rd (sE x n c) lb (st HRE x n c k A B v) (fun e t => e = .normal ∧ t = tz) := by
  have hlt := h.lt
  have hfw := h.few
  have hs := h.short
  have hl := h.len
  have hq := h.mem
  have bA := hA.bound (by omega)
  have bB := hB.bound (by omega)
  have fa1 := fA.a
  have fa2 := fA.pos
  have fa3 := fA.le
  have fa4 := congrArg List.length fA.m1
  have fa5 := hA.len
  exact ⟨_, gRE (Vs_dead hv) (hA.up (by omega)) fA (hB.up (by omega)), fun rd => sREs0 (Aw := hz.AB) (Dw := hz.DS) (R := hz.shaN) rd hv ⟨⟨⟨⟨⟨⟨⟨⟨⟨⟨⟨⟨⟨⟨⟨⟨⟨⟨⟨⟨⟨⟨⟨⟨⟨⟨⟨⟨⟨⟨trivial, (by first | omega | (simp only [nI, decide_eq_true_eq, decide_eq_false_iff_not, mostBytes, List.length_nil, Nat.mul_one]; omega))⟩, (by first | omega | (simp only [nI, decide_eq_true_eq, decide_eq_false_iff_not, mostBytes, List.length_nil, Nat.mul_one]; omega))⟩, (by first | omega | (simp only [nI, decide_eq_true_eq, decide_eq_false_iff_not, mostBytes, List.length_nil, Nat.mul_one]; omega))⟩, htw⟩, (w0f hw0)⟩, (w1t hw1)⟩, (a23 hA (by omega))⟩, (q12_of fA (by have := hA.len; omega))⟩, (cq (sum_of hA fA.m1) sw.N5.a 3)⟩, (cq (sum_of hA fA.m1) sw.N5.a 2)⟩, (cq (sum_of hA fA.m1) sw.N5.a 1)⟩, (cq (sum_of hA fA.m1) sw.N5.a 0)⟩, (cq (sum_of hA fA.m1) sw.N5.b 3)⟩, (cq (sum_of hA fA.m1) sw.N5.b 2)⟩, (cq (sum_of hA fA.m1) sw.N5.b 1)⟩, (cq (sum_of hA fA.m1) sw.N5.b 0)⟩, (cq (sum_of hA fA.m1) sw.N5.c 3)⟩, (cq (sum_of hA fA.m1) sw.N5.c 2)⟩, (cq (sum_of hA fA.m1) sw.N5.c 1)⟩, (cq (sum_of hA fA.m1) sw.N5.c 0)⟩, (cq (sum_of hA fA.m1) sw.N5.d 3)⟩, (cq (sum_of hA fA.m1) sw.N5.d 2)⟩, (cq (sum_of hA fA.m1) sw.N5.d 1)⟩, (cq (sum_of hA fA.m1) sw.N5.d 0)⟩, (cq (sum_of hA fA.m1) sw.N5.e 3)⟩, (cq (sum_of hA fA.m1) sw.N5.e 2)⟩, (cq (sum_of hA fA.m1) sw.N5.e 1)⟩, (cq (sum_of hA fA.m1) sw.N5.e 0)⟩, (cD_of hA fA)⟩, (fk_of (by omega))⟩⟩
theorem qREs1 {x : Acts} {n c k : Nat} {A B : Sd} {M N : List Int} {v : VF} (h : At x n k) (hv : ∀ i, DeadV (v i)) (hA : Side A M (600 * k)) (hB : Side B [] (600 * k)) (fA : Full A M) (htw : x.tw (ix k) = true) (hw0 : x.wh (ix k) ≠ 0) (hw1 : x.wh (ix k) = 1) :
    ∃ tz, Good x n c (k + 1) tz ∧ ∀ rd, Step Try.prog rd (sE x n c) lb (st HRE x n c k A B v) (fun e t => e = .normal ∧ t = tz) := by
  have hlt := h.lt
  have hfw := h.few
  have hs := h.short
  have hl := h.len
  have hq := h.mem
  have bA := hA.bound (by omega)
  have bB := hB.bound (by omega)
  have fa1 := fA.a
  have fa2 := fA.pos
  have fa3 := fA.le
  have fa4 := congrArg List.length fA.m1
  have fa5 := hA.len
  exact ⟨_, gRE (Vs_dead hv) (hA.up (by omega)) fA (hB.up (by omega)), fun rd => sREs1 (Aw := hz.AB) (Dw := hz.DS) (R := hz.shaN) rd hv ⟨⟨⟨⟨⟨⟨⟨⟨⟨⟨⟨⟨⟨⟨⟨⟨⟨⟨⟨⟨⟨⟨⟨⟨⟨⟨⟨⟨⟨⟨trivial, (by first | omega | (simp only [nI, decide_eq_true_eq, decide_eq_false_iff_not, mostBytes, List.length_nil, Nat.mul_one]; omega))⟩, (by first | omega | (simp only [nI, decide_eq_true_eq, decide_eq_false_iff_not, mostBytes, List.length_nil, Nat.mul_one]; omega))⟩, (by first | omega | (simp only [nI, decide_eq_true_eq, decide_eq_false_iff_not, mostBytes, List.length_nil, Nat.mul_one]; omega))⟩, htw⟩, (w0f hw0)⟩, (w1t hw1)⟩, (a23 hB (by omega))⟩, ⟨rfl, rfl⟩⟩, (cq (sum_nil hB) sw.N5.a 3)⟩, (cq (sum_nil hB) sw.N5.a 2)⟩, (cq (sum_nil hB) sw.N5.a 1)⟩, (cq (sum_nil hB) sw.N5.a 0)⟩, (cq (sum_nil hB) sw.N5.b 3)⟩, (cq (sum_nil hB) sw.N5.b 2)⟩, (cq (sum_nil hB) sw.N5.b 1)⟩, (cq (sum_nil hB) sw.N5.b 0)⟩, (cq (sum_nil hB) sw.N5.c 3)⟩, (cq (sum_nil hB) sw.N5.c 2)⟩, (cq (sum_nil hB) sw.N5.c 1)⟩, (cq (sum_nil hB) sw.N5.c 0)⟩, (cq (sum_nil hB) sw.N5.d 3)⟩, (cq (sum_nil hB) sw.N5.d 2)⟩, (cq (sum_nil hB) sw.N5.d 1)⟩, (cq (sum_nil hB) sw.N5.d 0)⟩, (cq (sum_nil hB) sw.N5.e 3)⟩, (cq (sum_nil hB) sw.N5.e 2)⟩, (cq (sum_nil hB) sw.N5.e 1)⟩, (cq (sum_nil hB) sw.N5.e 0)⟩, (cD_nil hB)⟩, (fk_of (by omega))⟩⟩
theorem qREc0 {x : Acts} {n c k : Nat} {A B : Sd} {M N : List Int} {v : VF} (h : At x n k) (hv : ∀ i, DeadV (v i)) (hA : Side A M (600 * k)) (hB : Side B [] (600 * k)) (fA : Full A M) (htw : x.tw (ix k) = false) (hw0 : x.wh (ix k) ≠ 0) (hw1 : x.wh (ix k) ≠ 1) :
    ∃ tz, Good x n c (k + 1) tz ∧ ∀ rd, Step Try.prog rd (sE x n c) lb (st HRE x n c k A B v) (fun e t => e = .normal ∧ t = tz) := by
  have hlt := h.lt
  have hfw := h.few
  have hs := h.short
  have hl := h.len
  have hq := h.mem
  have bA := hA.bound (by omega)
  have bB := hB.bound (by omega)
  have fa1 := fA.a
  have fa2 := fA.pos
  have fa3 := fA.le
  have fa4 := congrArg List.length fA.m1
  have fa5 := hA.len
  exact ⟨_, gEE (Vc_dead hv) (Side.any (hB.up (by omega)) _ _ _) (hB.up (by omega)), fun rd => sREc0 (Aw := hz.AB) (Dw := hz.DS) (R := hz.shaN) rd hv ⟨⟨⟨⟨⟨⟨⟨trivial, (by first | omega | (simp only [nI, decide_eq_true_eq, decide_eq_false_iff_not, mostBytes, List.length_nil, Nat.mul_one]; omega))⟩, (by first | omega | (simp only [nI, decide_eq_true_eq, decide_eq_false_iff_not, mostBytes, List.length_nil, Nat.mul_one]; omega))⟩, (by first | omega | (simp only [nI, decide_eq_true_eq, decide_eq_false_iff_not, mostBytes, List.length_nil, Nat.mul_one]; omega))⟩, htw⟩, (w0f hw0)⟩, (w1f hw1)⟩, (fk_of (by omega))⟩⟩
theorem qREc1 {x : Acts} {n c k : Nat} {A B : Sd} {M N : List Int} {v : VF} (h : At x n k) (hv : ∀ i, DeadV (v i)) (hA : Side A M (600 * k)) (hB : Side B [] (600 * k)) (fA : Full A M) (htw : x.tw (ix k) = true) (hw0 : x.wh (ix k) ≠ 0) (hw1 : x.wh (ix k) ≠ 1) :
    ∃ tz, Good x n c (k + 1) tz ∧ ∀ rd, Step Try.prog rd (sE x n c) lb (st HRE x n c k A B v) (fun e t => e = .normal ∧ t = tz) := by
  have hlt := h.lt
  have hfw := h.few
  have hs := h.short
  have hl := h.len
  have hq := h.mem
  have bA := hA.bound (by omega)
  have bB := hB.bound (by omega)
  have fa1 := fA.a
  have fa2 := fA.pos
  have fa3 := fA.le
  have fa4 := congrArg List.length fA.m1
  have fa5 := hA.len
  exact ⟨_, gSS (Vc_dead hv) (Side.any (hA.up (by omega)) _ _ _) (Full.any fA _ _) (Side.any (hA.up (by omega)) _ _ _), fun rd => sREc1 (Aw := hz.AB) (Dw := hz.DS) (R := hz.shaN) rd hv ⟨⟨⟨⟨⟨⟨⟨trivial, (by first | omega | (simp only [nI, decide_eq_true_eq, decide_eq_false_iff_not, mostBytes, List.length_nil, Nat.mul_one]; omega))⟩, (by first | omega | (simp only [nI, decide_eq_true_eq, decide_eq_false_iff_not, mostBytes, List.length_nil, Nat.mul_one]; omega))⟩, (by first | omega | (simp only [nI, decide_eq_true_eq, decide_eq_false_iff_not, mostBytes, List.length_nil, Nat.mul_one]; omega))⟩, htw⟩, (w0f hw0)⟩, (w1f hw1)⟩, (fk_of (by omega))⟩⟩
theorem qREw10 {x : Acts} {n c k : Nat} {A B : Sd} {M N : List Int} {v : VF} (h : At x n k) (hv : ∀ i, DeadV (v i)) (hA : Side A M (600 * k)) (hB : Side B [] (600 * k)) (fA : Full A M) (htw : x.tw (ix k) = false) (hw0 : x.wh (ix k) = 0) (h0 : x.m (ix k) ≠ 0) :
    ∃ tz, Good x n c (k + 1) tz ∧ ∀ rd, Step Try.prog rd (sE x n c) lb (st HRE x n c k A B v) (fun e t => e = .normal ∧ t = tz) := by
  have hlt := h.lt
  have hfw := h.few
  have hs := h.short
  have hl := h.len
  have hq := h.mem
  have bA := hA.bound (by omega)
  have bB := hB.bound (by omega)
  have fa1 := fA.a
  have fa2 := fA.pos
  have fa3 := fA.le
  have fa4 := congrArg List.length fA.m1
  have fa5 := hA.len
  exact ⟨_, gRE (Vw1_dead hv) (side_put (K := 600 * k) h hA (by omega) (wf_eq h)) (full_RF h fA) (hB.up (by omega)), fun rd => sREw10 (Aw := hz.AB) (Dw := hz.DS) (R := hz.shaN) rd hv ⟨⟨⟨⟨⟨⟨⟨⟨⟨⟨⟨⟨⟨⟨⟨⟨⟨trivial, (by first | omega | (simp only [nI, decide_eq_true_eq, decide_eq_false_iff_not, mostBytes, List.length_nil, Nat.mul_one]; omega))⟩, (by first | omega | (simp only [nI, decide_eq_true_eq, decide_eq_false_iff_not, mostBytes, List.length_nil, Nat.mul_one]; omega))⟩, (by first | omega | (simp only [nI, decide_eq_true_eq, decide_eq_false_iff_not, mostBytes, List.length_nil, Nat.mul_one]; omega))⟩, htw⟩, (w0t hw0)⟩, (by first | omega | (simp only [nI, decide_eq_true_eq, decide_eq_false_iff_not, mostBytes, List.length_nil, Nat.mul_one]; omega))⟩, ⟨hq, (by first | omega | (simp only [nI, decide_eq_true_eq, decide_eq_false_iff_not, mostBytes, List.length_nil, Nat.mul_one]; omega))⟩⟩, (a22 h hA (wf_eq h) (by omega))⟩, (by first | omega | (simp only [nI, decide_eq_true_eq, decide_eq_false_iff_not, mostBytes, List.length_nil, Nat.mul_one]; omega))⟩, hq⟩, (str_of (wf_eq h))⟩, (fun rd => loopJ hRE jnRE jxRE joRE x n c k _ _ (Vpre v) 0 (rowx x k) (x.m (ix k)) rfl (by omega) (by omega) hl (Vpre_dead hv) rd)⟩, (by first | omega | (simp only [nI, decide_eq_true_eq, decide_eq_false_iff_not, mostBytes, List.length_nil, Nat.mul_one]; omega))⟩, (by first | omega | (simp only [nI, decide_eq_true_eq, decide_eq_false_iff_not, mostBytes, List.length_nil, Nat.mul_one]; omega))⟩, (by first | omega | (simp only [nI, decide_eq_true_eq, decide_eq_false_iff_not, mostBytes, List.length_nil, Nat.mul_one]; omega))⟩, ⟨hq, (by first | omega | (simp only [nI, decide_eq_true_eq, decide_eq_false_iff_not, mostBytes, List.length_nil, Nat.mul_one]; omega))⟩⟩, (fk_of (by omega))⟩⟩
theorem qREw11 {x : Acts} {n c k : Nat} {A B : Sd} {M N : List Int} {v : VF} (h : At x n k) (hv : ∀ i, DeadV (v i)) (hA : Side A M (600 * k)) (hB : Side B [] (600 * k)) (fA : Full A M) (htw : x.tw (ix k) = true) (hw0 : x.wh (ix k) = 0) (h0 : x.m (ix k) ≠ 0) :
    ∃ tz, Good x n c (k + 1) tz ∧ ∀ rd, Step Try.prog rd (sE x n c) lb (st HRE x n c k A B v) (fun e t => e = .normal ∧ t = tz) := by
  have hlt := h.lt
  have hfw := h.few
  have hs := h.short
  have hl := h.len
  have hq := h.mem
  have bA := hA.bound (by omega)
  have bB := hB.bound (by omega)
  have fa1 := fA.a
  have fa2 := fA.pos
  have fa3 := fA.le
  have fa4 := congrArg List.length fA.m1
  have fa5 := hA.len
  exact ⟨_, gRR (Vw1_dead hv) (hA.up (by omega)) fA (side_put (K := 600 * k) h hB (by omega) (wf_eq h)) (full_EF h h0), fun rd => sREw11 (Aw := hz.AB) (Dw := hz.DS) (R := hz.shaN) rd hv ⟨⟨⟨⟨⟨⟨⟨⟨⟨⟨⟨⟨⟨⟨⟨⟨trivial, (by first | omega | (simp only [nI, decide_eq_true_eq, decide_eq_false_iff_not, mostBytes, List.length_nil, Nat.mul_one]; omega))⟩, (by first | omega | (simp only [nI, decide_eq_true_eq, decide_eq_false_iff_not, mostBytes, List.length_nil, Nat.mul_one]; omega))⟩, (by first | omega | (simp only [nI, decide_eq_true_eq, decide_eq_false_iff_not, mostBytes, List.length_nil, Nat.mul_one]; omega))⟩, htw⟩, (w0t hw0)⟩, (by first | omega | (simp only [nI, decide_eq_true_eq, decide_eq_false_iff_not, mostBytes, List.length_nil, Nat.mul_one]; omega))⟩, ⟨hq, (by first | omega | (simp only [nI, decide_eq_true_eq, decide_eq_false_iff_not, mostBytes, List.length_nil, Nat.mul_one]; omega))⟩⟩, (a22 h hB (wf_eq h) (by omega))⟩, (by first | omega | (simp only [nI, decide_eq_true_eq, decide_eq_false_iff_not, mostBytes, List.length_nil, Nat.mul_one]; omega))⟩, hq⟩, (str_of (wf_eq h))⟩, (fun rd => loopJ hRE jnRE jxRE joRE x n c k _ _ (Vpre v) 1 (rowx x k) (x.m (ix k)) rfl (by omega) (by omega) hl (Vpre_dead hv) rd)⟩, ⟨.inl rfl, Nat.le_refl _⟩⟩, (by first | omega | (simp only [nI, decide_eq_true_eq, decide_eq_false_iff_not, mostBytes, List.length_nil, Nat.mul_one]; omega))⟩, ⟨hq, (by first | omega | (simp only [nI, decide_eq_true_eq, decide_eq_false_iff_not, mostBytes, List.length_nil, Nat.mul_one]; omega))⟩⟩, (fk_of (by omega))⟩⟩
theorem qREw00 {x : Acts} {n c k : Nat} {A B : Sd} {M N : List Int} {v : VF} (h : At x n k) (hv : ∀ i, DeadV (v i)) (hA : Side A M (600 * k)) (hB : Side B [] (600 * k)) (fA : Full A M) (htw : x.tw (ix k) = false) (hw0 : x.wh (ix k) = 0) (h0 : x.m (ix k) = 0) :
    ∃ tz, Good x n c (k + 1) tz ∧ ∀ rd, Step Try.prog rd (sE x n c) lb (st HRE x n c k A B v) (fun e t => e = .normal ∧ t = tz) := by
  have hlt := h.lt
  have hfw := h.few
  have hs := h.short
  have hl := h.len
  have hq := h.mem
  have bA := hA.bound (by omega)
  have bB := hB.bound (by omega)
  have fa1 := fA.a
  have fa2 := fA.pos
  have fa3 := fA.le
  have fa4 := congrArg List.length fA.m1
  have fa5 := hA.len
  exact ⟨_, gRE (Vw0_dead hv) (side_put (K := 600 * k) h hA (by omega) (wz_eq h h0)) (full_RZ h h0 fA) (hB.up (by omega)), fun rd => sREw00 (Aw := hz.AB) (Dw := hz.DS) (R := hz.shaN) rd hv ⟨⟨⟨⟨⟨⟨⟨⟨⟨⟨⟨⟨⟨⟨⟨⟨⟨trivial, (by first | omega | (simp only [nI, decide_eq_true_eq, decide_eq_false_iff_not, mostBytes, List.length_nil, Nat.mul_one]; omega))⟩, (by first | omega | (simp only [nI, decide_eq_true_eq, decide_eq_false_iff_not, mostBytes, List.length_nil, Nat.mul_one]; omega))⟩, (by first | omega | (simp only [nI, decide_eq_true_eq, decide_eq_false_iff_not, mostBytes, List.length_nil, Nat.mul_one]; omega))⟩, htw⟩, (w0t hw0)⟩, (by first | omega | (simp only [nI, decide_eq_true_eq, decide_eq_false_iff_not, mostBytes, List.length_nil, Nat.mul_one]; omega))⟩, ⟨hq, (by first | omega | (simp only [nI, decide_eq_true_eq, decide_eq_false_iff_not, mostBytes, List.length_nil, Nat.mul_one]; omega))⟩⟩, (a22 h hA (wz_eq h h0) (by omega))⟩, (by rw [h0, row_nil h h0]; simp [layI])⟩, hq⟩, (str_of (wz_eq h h0))⟩, (by first | omega | (simp only [nI, decide_eq_true_eq, decide_eq_false_iff_not, mostBytes, List.length_nil, Nat.mul_one]; omega))⟩, (by first | omega | (simp only [nI, decide_eq_true_eq, decide_eq_false_iff_not, mostBytes, List.length_nil, Nat.mul_one]; omega))⟩, (by first | omega | (simp only [nI, decide_eq_true_eq, decide_eq_false_iff_not, mostBytes, List.length_nil, Nat.mul_one]; omega))⟩, (by first | omega | (simp only [nI, decide_eq_true_eq, decide_eq_false_iff_not, mostBytes, List.length_nil, Nat.mul_one]; omega))⟩, ⟨hq, (by first | omega | (simp only [nI, decide_eq_true_eq, decide_eq_false_iff_not, mostBytes, List.length_nil, Nat.mul_one]; omega))⟩⟩, (fk_of (by omega))⟩⟩
theorem qREw01 {x : Acts} {n c k : Nat} {A B : Sd} {M N : List Int} {v : VF} (h : At x n k) (hv : ∀ i, DeadV (v i)) (hA : Side A M (600 * k)) (hB : Side B [] (600 * k)) (fA : Full A M) (htw : x.tw (ix k) = true) (hw0 : x.wh (ix k) = 0) (h0 : x.m (ix k) = 0) :
    ∃ tz, Good x n c (k + 1) tz ∧ ∀ rd, Step Try.prog rd (sE x n c) lb (st HRE x n c k A B v) (fun e t => e = .normal ∧ t = tz) := by
  have hlt := h.lt
  have hfw := h.few
  have hs := h.short
  have hl := h.len
  have hq := h.mem
  have bA := hA.bound (by omega)
  have bB := hB.bound (by omega)
  have fa1 := fA.a
  have fa2 := fA.pos
  have fa3 := fA.le
  have fa4 := congrArg List.length fA.m1
  have fa5 := hA.len
  exact ⟨_, gRE (Vw0_dead hv) (hA.up (by omega)) fA (by have := side_put (K := 600 * k) (L := B.L) (a := B.a) (q := B.q) h hB (by omega) (wz_eq h h0); rw [row_nil h h0, List.append_nil] at this; exact this), fun rd => Step.weaken (t2 := st HRE x n c (k + 1) A (⟨hz.AB (wz x k) (hz.hOf (hz.cH B.h B.z)), IntKind.i64.wrap (intAt (hz.cH B.h B.z) 70 + ((0 + x.m (ix k) : Nat) : Int)), B.L, B.a, B.q⟩) (Vw0 v)) (wk_HH (.inl rfl) (zl0 11 (by omega))) (sREw01 (Aw := hz.AB) (Dw := hz.DS) (R := hz.shaN) rd hv ⟨⟨⟨⟨⟨⟨⟨⟨⟨⟨⟨⟨⟨⟨⟨⟨trivial, (by first | omega | (simp only [nI, decide_eq_true_eq, decide_eq_false_iff_not, mostBytes, List.length_nil, Nat.mul_one]; omega))⟩, (by first | omega | (simp only [nI, decide_eq_true_eq, decide_eq_false_iff_not, mostBytes, List.length_nil, Nat.mul_one]; omega))⟩, (by first | omega | (simp only [nI, decide_eq_true_eq, decide_eq_false_iff_not, mostBytes, List.length_nil, Nat.mul_one]; omega))⟩, htw⟩, (w0t hw0)⟩, (by first | omega | (simp only [nI, decide_eq_true_eq, decide_eq_false_iff_not, mostBytes, List.length_nil, Nat.mul_one]; omega))⟩, ⟨hq, (by first | omega | (simp only [nI, decide_eq_true_eq, decide_eq_false_iff_not, mostBytes, List.length_nil, Nat.mul_one]; omega))⟩⟩, (a22 h hB (wz_eq h h0) (by omega))⟩, (by rw [h0, row_nil h h0]; simp [layI])⟩, hq⟩, (str_of (wz_eq h h0))⟩, (by first | omega | (simp only [nI, decide_eq_true_eq, decide_eq_false_iff_not, mostBytes, List.length_nil, Nat.mul_one]; omega))⟩, ⟨.inl rfl, Nat.le_refl _⟩⟩, (by first | omega | (simp only [nI, decide_eq_true_eq, decide_eq_false_iff_not, mostBytes, List.length_nil, Nat.mul_one]; omega))⟩, ⟨hq, (by first | omega | (simp only [nI, decide_eq_true_eq, decide_eq_false_iff_not, mostBytes, List.length_nil, Nat.mul_one]; omega))⟩⟩, (fk_of (by omega))⟩)⟩
theorem qERs0 {x : Acts} {n c k : Nat} {A B : Sd} {M N : List Int} {v : VF} (h : At x n k) (hv : ∀ i, DeadV (v i)) (hA : Side A [] (600 * k)) (hB : Side B N (600 * k)) (fB : Full B N) (htw : x.tw (ix k) = false) (hw0 : x.wh (ix k) ≠ 0) (hw1 : x.wh (ix k) = 1) :
    ∃ tz, Good x n c (k + 1) tz ∧ ∀ rd, Step Try.prog rd (sE x n c) lb (st HER x n c k A B v) (fun e t => e = .normal ∧ t = tz) := by
  have hlt := h.lt
  have hfw := h.few
  have hs := h.short
  have hl := h.len
  have hq := h.mem
  have bA := hA.bound (by omega)
  have bB := hB.bound (by omega)
  have fb1 := fB.a
  have fb2 := fB.pos
  have fb3 := fB.le
  have fb4 := congrArg List.length fB.m1
  have fb5 := hB.len
  exact ⟨_, gER (Vs_dead hv) (hA.up (by omega)) (hB.up (by omega)) fB, fun rd => sERs0 (Aw := hz.AB) (Dw := hz.DS) (R := hz.shaN) rd hv ⟨⟨⟨⟨⟨⟨⟨⟨⟨⟨⟨⟨⟨⟨⟨⟨⟨⟨⟨⟨⟨⟨⟨⟨⟨⟨⟨⟨⟨⟨trivial, (by first | omega | (simp only [nI, decide_eq_true_eq, decide_eq_false_iff_not, mostBytes, List.length_nil, Nat.mul_one]; omega))⟩, (by first | omega | (simp only [nI, decide_eq_true_eq, decide_eq_false_iff_not, mostBytes, List.length_nil, Nat.mul_one]; omega))⟩, (by first | omega | (simp only [nI, decide_eq_true_eq, decide_eq_false_iff_not, mostBytes, List.length_nil, Nat.mul_one]; omega))⟩, htw⟩, (w0f hw0)⟩, (w1t hw1)⟩, (a23 hA (by omega))⟩, ⟨rfl, rfl⟩⟩, (cq (sum_nil hA) sw.N5.a 3)⟩, (cq (sum_nil hA) sw.N5.a 2)⟩, (cq (sum_nil hA) sw.N5.a 1)⟩, (cq (sum_nil hA) sw.N5.a 0)⟩, (cq (sum_nil hA) sw.N5.b 3)⟩, (cq (sum_nil hA) sw.N5.b 2)⟩, (cq (sum_nil hA) sw.N5.b 1)⟩, (cq (sum_nil hA) sw.N5.b 0)⟩, (cq (sum_nil hA) sw.N5.c 3)⟩, (cq (sum_nil hA) sw.N5.c 2)⟩, (cq (sum_nil hA) sw.N5.c 1)⟩, (cq (sum_nil hA) sw.N5.c 0)⟩, (cq (sum_nil hA) sw.N5.d 3)⟩, (cq (sum_nil hA) sw.N5.d 2)⟩, (cq (sum_nil hA) sw.N5.d 1)⟩, (cq (sum_nil hA) sw.N5.d 0)⟩, (cq (sum_nil hA) sw.N5.e 3)⟩, (cq (sum_nil hA) sw.N5.e 2)⟩, (cq (sum_nil hA) sw.N5.e 1)⟩, (cq (sum_nil hA) sw.N5.e 0)⟩, (cD_nil hA)⟩, (fk_of (by omega))⟩⟩
theorem qERs1 {x : Acts} {n c k : Nat} {A B : Sd} {M N : List Int} {v : VF} (h : At x n k) (hv : ∀ i, DeadV (v i)) (hA : Side A [] (600 * k)) (hB : Side B N (600 * k)) (fB : Full B N) (htw : x.tw (ix k) = true) (hw0 : x.wh (ix k) ≠ 0) (hw1 : x.wh (ix k) = 1) :
    ∃ tz, Good x n c (k + 1) tz ∧ ∀ rd, Step Try.prog rd (sE x n c) lb (st HER x n c k A B v) (fun e t => e = .normal ∧ t = tz) := by
  have hlt := h.lt
  have hfw := h.few
  have hs := h.short
  have hl := h.len
  have hq := h.mem
  have bA := hA.bound (by omega)
  have bB := hB.bound (by omega)
  have fb1 := fB.a
  have fb2 := fB.pos
  have fb3 := fB.le
  have fb4 := congrArg List.length fB.m1
  have fb5 := hB.len
  exact ⟨_, gER (Vs_dead hv) (hA.up (by omega)) (hB.up (by omega)) fB, fun rd => sERs1 (Aw := hz.AB) (Dw := hz.DS) (R := hz.shaN) rd hv ⟨⟨⟨⟨⟨⟨⟨⟨⟨⟨⟨⟨⟨⟨⟨⟨⟨⟨⟨⟨⟨⟨⟨⟨⟨⟨⟨⟨⟨⟨trivial, (by first | omega | (simp only [nI, decide_eq_true_eq, decide_eq_false_iff_not, mostBytes, List.length_nil, Nat.mul_one]; omega))⟩, (by first | omega | (simp only [nI, decide_eq_true_eq, decide_eq_false_iff_not, mostBytes, List.length_nil, Nat.mul_one]; omega))⟩, (by first | omega | (simp only [nI, decide_eq_true_eq, decide_eq_false_iff_not, mostBytes, List.length_nil, Nat.mul_one]; omega))⟩, htw⟩, (w0f hw0)⟩, (w1t hw1)⟩, (a23 hB (by omega))⟩, (q12_of fB (by have := hB.len; omega))⟩, (cq (sum_of hB fB.m1) sw.N5.a 3)⟩, (cq (sum_of hB fB.m1) sw.N5.a 2)⟩, (cq (sum_of hB fB.m1) sw.N5.a 1)⟩, (cq (sum_of hB fB.m1) sw.N5.a 0)⟩, (cq (sum_of hB fB.m1) sw.N5.b 3)⟩, (cq (sum_of hB fB.m1) sw.N5.b 2)⟩, (cq (sum_of hB fB.m1) sw.N5.b 1)⟩, (cq (sum_of hB fB.m1) sw.N5.b 0)⟩, (cq (sum_of hB fB.m1) sw.N5.c 3)⟩, (cq (sum_of hB fB.m1) sw.N5.c 2)⟩, (cq (sum_of hB fB.m1) sw.N5.c 1)⟩, (cq (sum_of hB fB.m1) sw.N5.c 0)⟩, (cq (sum_of hB fB.m1) sw.N5.d 3)⟩, (cq (sum_of hB fB.m1) sw.N5.d 2)⟩, (cq (sum_of hB fB.m1) sw.N5.d 1)⟩, (cq (sum_of hB fB.m1) sw.N5.d 0)⟩, (cq (sum_of hB fB.m1) sw.N5.e 3)⟩, (cq (sum_of hB fB.m1) sw.N5.e 2)⟩, (cq (sum_of hB fB.m1) sw.N5.e 1)⟩, (cq (sum_of hB fB.m1) sw.N5.e 0)⟩, (cD_of hB fB)⟩, (fk_of (by omega))⟩⟩
theorem qERc0 {x : Acts} {n c k : Nat} {A B : Sd} {M N : List Int} {v : VF} (h : At x n k) (hv : ∀ i, DeadV (v i)) (hA : Side A [] (600 * k)) (hB : Side B N (600 * k)) (fB : Full B N) (htw : x.tw (ix k) = false) (hw0 : x.wh (ix k) ≠ 0) (hw1 : x.wh (ix k) ≠ 1) :
    ∃ tz, Good x n c (k + 1) tz ∧ ∀ rd, Step Try.prog rd (sE x n c) lb (st HER x n c k A B v) (fun e t => e = .normal ∧ t = tz) := by
  have hlt := h.lt
  have hfw := h.few
  have hs := h.short
  have hl := h.len
  have hq := h.mem
  have bA := hA.bound (by omega)
  have bB := hB.bound (by omega)
  have fb1 := fB.a
  have fb2 := fB.pos
  have fb3 := fB.le
  have fb4 := congrArg List.length fB.m1
  have fb5 := hB.len
  exact ⟨_, gSS (Vc_dead hv) (Side.any (hB.up (by omega)) _ _ _) (Full.any fB _ _) (Side.any (hB.up (by omega)) _ _ _), fun rd => sERc0 (Aw := hz.AB) (Dw := hz.DS) (R := hz.shaN) rd hv ⟨⟨⟨⟨⟨⟨⟨trivial, (by first | omega | (simp only [nI, decide_eq_true_eq, decide_eq_false_iff_not, mostBytes, List.length_nil, Nat.mul_one]; omega))⟩, (by first | omega | (simp only [nI, decide_eq_true_eq, decide_eq_false_iff_not, mostBytes, List.length_nil, Nat.mul_one]; omega))⟩, (by first | omega | (simp only [nI, decide_eq_true_eq, decide_eq_false_iff_not, mostBytes, List.length_nil, Nat.mul_one]; omega))⟩, htw⟩, (w0f hw0)⟩, (w1f hw1)⟩, (fk_of (by omega))⟩⟩
theorem qERc1 {x : Acts} {n c k : Nat} {A B : Sd} {M N : List Int} {v : VF} (h : At x n k) (hv : ∀ i, DeadV (v i)) (hA : Side A [] (600 * k)) (hB : Side B N (600 * k)) (fB : Full B N) (htw : x.tw (ix k) = true) (hw0 : x.wh (ix k) ≠ 0) (hw1 : x.wh (ix k) ≠ 1) :
    ∃ tz, Good x n c (k + 1) tz ∧ ∀ rd, Step Try.prog rd (sE x n c) lb (st HER x n c k A B v) (fun e t => e = .normal ∧ t = tz) := by
  have hlt := h.lt
  have hfw := h.few
  have hs := h.short
  have hl := h.len
  have hq := h.mem
  have bA := hA.bound (by omega)
  have bB := hB.bound (by omega)
  have fb1 := fB.a
  have fb2 := fB.pos
  have fb3 := fB.le
  have fb4 := congrArg List.length fB.m1
  have fb5 := hB.len
  exact ⟨_, gEE (Vc_dead hv) (hA.up (by omega)) (Side.any (hA.up (by omega)) _ _ _), fun rd => sERc1 (Aw := hz.AB) (Dw := hz.DS) (R := hz.shaN) rd hv ⟨⟨⟨⟨⟨⟨⟨trivial, (by first | omega | (simp only [nI, decide_eq_true_eq, decide_eq_false_iff_not, mostBytes, List.length_nil, Nat.mul_one]; omega))⟩, (by first | omega | (simp only [nI, decide_eq_true_eq, decide_eq_false_iff_not, mostBytes, List.length_nil, Nat.mul_one]; omega))⟩, (by first | omega | (simp only [nI, decide_eq_true_eq, decide_eq_false_iff_not, mostBytes, List.length_nil, Nat.mul_one]; omega))⟩, htw⟩, (w0f hw0)⟩, (w1f hw1)⟩, (fk_of (by omega))⟩⟩
theorem qERw10 {x : Acts} {n c k : Nat} {A B : Sd} {M N : List Int} {v : VF} (h : At x n k) (hv : ∀ i, DeadV (v i)) (hA : Side A [] (600 * k)) (hB : Side B N (600 * k)) (fB : Full B N) (htw : x.tw (ix k) = false) (hw0 : x.wh (ix k) = 0) (h0 : x.m (ix k) ≠ 0) :
    ∃ tz, Good x n c (k + 1) tz ∧ ∀ rd, Step Try.prog rd (sE x n c) lb (st HER x n c k A B v) (fun e t => e = .normal ∧ t = tz) := by
  have hlt := h.lt
  have hfw := h.few
  have hs := h.short
  have hl := h.len
  have hq := h.mem
  have bA := hA.bound (by omega)
  have bB := hB.bound (by omega)
  have fb1 := fB.a
  have fb2 := fB.pos
  have fb3 := fB.le
  have fb4 := congrArg List.length fB.m1
  have fb5 := hB.len
  exact ⟨_, gRR (Vw1_dead hv) (side_put (K := 600 * k) h hA (by omega) (wf_eq h)) (full_EF h h0) (hB.up (by omega)) fB, fun rd => sERw10 (Aw := hz.AB) (Dw := hz.DS) (R := hz.shaN) rd hv ⟨⟨⟨⟨⟨⟨⟨⟨⟨⟨⟨⟨⟨⟨⟨⟨trivial, (by first | omega | (simp only [nI, decide_eq_true_eq, decide_eq_false_iff_not, mostBytes, List.length_nil, Nat.mul_one]; omega))⟩, (by first | omega | (simp only [nI, decide_eq_true_eq, decide_eq_false_iff_not, mostBytes, List.length_nil, Nat.mul_one]; omega))⟩, (by first | omega | (simp only [nI, decide_eq_true_eq, decide_eq_false_iff_not, mostBytes, List.length_nil, Nat.mul_one]; omega))⟩, htw⟩, (w0t hw0)⟩, (by first | omega | (simp only [nI, decide_eq_true_eq, decide_eq_false_iff_not, mostBytes, List.length_nil, Nat.mul_one]; omega))⟩, ⟨hq, (by first | omega | (simp only [nI, decide_eq_true_eq, decide_eq_false_iff_not, mostBytes, List.length_nil, Nat.mul_one]; omega))⟩⟩, (a22 h hA (wf_eq h) (by omega))⟩, (by first | omega | (simp only [nI, decide_eq_true_eq, decide_eq_false_iff_not, mostBytes, List.length_nil, Nat.mul_one]; omega))⟩, hq⟩, (str_of (wf_eq h))⟩, (fun rd => loopJ hER jnER jxER joER x n c k _ _ (Vpre v) 0 (rowx x k) (x.m (ix k)) rfl (by omega) (by omega) hl (Vpre_dead hv) rd)⟩, ⟨.inl rfl, Nat.le_refl _⟩⟩, (by first | omega | (simp only [nI, decide_eq_true_eq, decide_eq_false_iff_not, mostBytes, List.length_nil, Nat.mul_one]; omega))⟩, ⟨hq, (by first | omega | (simp only [nI, decide_eq_true_eq, decide_eq_false_iff_not, mostBytes, List.length_nil, Nat.mul_one]; omega))⟩⟩, (fk_of (by omega))⟩⟩
theorem qERw11 {x : Acts} {n c k : Nat} {A B : Sd} {M N : List Int} {v : VF} (h : At x n k) (hv : ∀ i, DeadV (v i)) (hA : Side A [] (600 * k)) (hB : Side B N (600 * k)) (fB : Full B N) (htw : x.tw (ix k) = true) (hw0 : x.wh (ix k) = 0) (h0 : x.m (ix k) ≠ 0) :
    ∃ tz, Good x n c (k + 1) tz ∧ ∀ rd, Step Try.prog rd (sE x n c) lb (st HER x n c k A B v) (fun e t => e = .normal ∧ t = tz) := by
  have hlt := h.lt
  have hfw := h.few
  have hs := h.short
  have hl := h.len
  have hq := h.mem
  have bA := hA.bound (by omega)
  have bB := hB.bound (by omega)
  have fb1 := fB.a
  have fb2 := fB.pos
  have fb3 := fB.le
  have fb4 := congrArg List.length fB.m1
  have fb5 := hB.len
  exact ⟨_, gER (Vw1_dead hv) (hA.up (by omega)) (side_put (K := 600 * k) h hB (by omega) (wf_eq h)) (full_RF h fB), fun rd => sERw11 (Aw := hz.AB) (Dw := hz.DS) (R := hz.shaN) rd hv ⟨⟨⟨⟨⟨⟨⟨⟨⟨⟨⟨⟨⟨⟨⟨⟨⟨trivial, (by first | omega | (simp only [nI, decide_eq_true_eq, decide_eq_false_iff_not, mostBytes, List.length_nil, Nat.mul_one]; omega))⟩, (by first | omega | (simp only [nI, decide_eq_true_eq, decide_eq_false_iff_not, mostBytes, List.length_nil, Nat.mul_one]; omega))⟩, (by first | omega | (simp only [nI, decide_eq_true_eq, decide_eq_false_iff_not, mostBytes, List.length_nil, Nat.mul_one]; omega))⟩, htw⟩, (w0t hw0)⟩, (by first | omega | (simp only [nI, decide_eq_true_eq, decide_eq_false_iff_not, mostBytes, List.length_nil, Nat.mul_one]; omega))⟩, ⟨hq, (by first | omega | (simp only [nI, decide_eq_true_eq, decide_eq_false_iff_not, mostBytes, List.length_nil, Nat.mul_one]; omega))⟩⟩, (a22 h hB (wf_eq h) (by omega))⟩, (by first | omega | (simp only [nI, decide_eq_true_eq, decide_eq_false_iff_not, mostBytes, List.length_nil, Nat.mul_one]; omega))⟩, hq⟩, (str_of (wf_eq h))⟩, (fun rd => loopJ hER jnER jxER joER x n c k _ _ (Vpre v) 1 (rowx x k) (x.m (ix k)) rfl (by omega) (by omega) hl (Vpre_dead hv) rd)⟩, (by first | omega | (simp only [nI, decide_eq_true_eq, decide_eq_false_iff_not, mostBytes, List.length_nil, Nat.mul_one]; omega))⟩, (by first | omega | (simp only [nI, decide_eq_true_eq, decide_eq_false_iff_not, mostBytes, List.length_nil, Nat.mul_one]; omega))⟩, (by first | omega | (simp only [nI, decide_eq_true_eq, decide_eq_false_iff_not, mostBytes, List.length_nil, Nat.mul_one]; omega))⟩, ⟨hq, (by first | omega | (simp only [nI, decide_eq_true_eq, decide_eq_false_iff_not, mostBytes, List.length_nil, Nat.mul_one]; omega))⟩⟩, (fk_of (by omega))⟩⟩
theorem qERw00 {x : Acts} {n c k : Nat} {A B : Sd} {M N : List Int} {v : VF} (h : At x n k) (hv : ∀ i, DeadV (v i)) (hA : Side A [] (600 * k)) (hB : Side B N (600 * k)) (fB : Full B N) (htw : x.tw (ix k) = false) (hw0 : x.wh (ix k) = 0) (h0 : x.m (ix k) = 0) :
    ∃ tz, Good x n c (k + 1) tz ∧ ∀ rd, Step Try.prog rd (sE x n c) lb (st HER x n c k A B v) (fun e t => e = .normal ∧ t = tz) := by
  have hlt := h.lt
  have hfw := h.few
  have hs := h.short
  have hl := h.len
  have hq := h.mem
  have bA := hA.bound (by omega)
  have bB := hB.bound (by omega)
  have fb1 := fB.a
  have fb2 := fB.pos
  have fb3 := fB.le
  have fb4 := congrArg List.length fB.m1
  have fb5 := hB.len
  exact ⟨_, gER (Vw0_dead hv) (by have := side_put (K := 600 * k) (L := A.L) (a := A.a) (q := A.q) h hA (by omega) (wz_eq h h0); rw [row_nil h h0, List.append_nil] at this; exact this) (hB.up (by omega)) fB, fun rd => Step.weaken (t2 := st HER x n c (k + 1) (⟨hz.AB (wz x k) (hz.hOf (hz.cH A.h A.z)), IntKind.i64.wrap (intAt (hz.cH A.h A.z) 70 + ((0 + x.m (ix k) : Nat) : Int)), A.L, A.a, A.q⟩) B (Vw0 v)) (wk_HH (zl0 10 (by omega)) (.inl rfl)) (sERw00 (Aw := hz.AB) (Dw := hz.DS) (R := hz.shaN) rd hv ⟨⟨⟨⟨⟨⟨⟨⟨⟨⟨⟨⟨⟨⟨⟨⟨trivial, (by first | omega | (simp only [nI, decide_eq_true_eq, decide_eq_false_iff_not, mostBytes, List.length_nil, Nat.mul_one]; omega))⟩, (by first | omega | (simp only [nI, decide_eq_true_eq, decide_eq_false_iff_not, mostBytes, List.length_nil, Nat.mul_one]; omega))⟩, (by first | omega | (simp only [nI, decide_eq_true_eq, decide_eq_false_iff_not, mostBytes, List.length_nil, Nat.mul_one]; omega))⟩, htw⟩, (w0t hw0)⟩, (by first | omega | (simp only [nI, decide_eq_true_eq, decide_eq_false_iff_not, mostBytes, List.length_nil, Nat.mul_one]; omega))⟩, ⟨hq, (by first | omega | (simp only [nI, decide_eq_true_eq, decide_eq_false_iff_not, mostBytes, List.length_nil, Nat.mul_one]; omega))⟩⟩, (a22 h hA (wz_eq h h0) (by omega))⟩, (by rw [h0, row_nil h h0]; simp [layI])⟩, hq⟩, (str_of (wz_eq h h0))⟩, (by first | omega | (simp only [nI, decide_eq_true_eq, decide_eq_false_iff_not, mostBytes, List.length_nil, Nat.mul_one]; omega))⟩, ⟨.inl rfl, Nat.le_refl _⟩⟩, (by first | omega | (simp only [nI, decide_eq_true_eq, decide_eq_false_iff_not, mostBytes, List.length_nil, Nat.mul_one]; omega))⟩, ⟨hq, (by first | omega | (simp only [nI, decide_eq_true_eq, decide_eq_false_iff_not, mostBytes, List.length_nil, Nat.mul_one]; omega))⟩⟩, (fk_of (by omega))⟩)⟩
theorem qERw01 {x : Acts} {n c k : Nat} {A B : Sd} {M N : List Int} {v : VF} (h : At x n k) (hv : ∀ i, DeadV (v i)) (hA : Side A [] (600 * k)) (hB : Side B N (600 * k)) (fB : Full B N) (htw : x.tw (ix k) = true) (hw0 : x.wh (ix k) = 0) (h0 : x.m (ix k) = 0) :
    ∃ tz, Good x n c (k + 1) tz ∧ ∀ rd, Step Try.prog rd (sE x n c) lb (st HER x n c k A B v) (fun e t => e = .normal ∧ t = tz) := by
  have hlt := h.lt
  have hfw := h.few
  have hs := h.short
  have hl := h.len
  have hq := h.mem
  have bA := hA.bound (by omega)
  have bB := hB.bound (by omega)
  have fb1 := fB.a
  have fb2 := fB.pos
  have fb3 := fB.le
  have fb4 := congrArg List.length fB.m1
  have fb5 := hB.len
  exact ⟨_, gER (Vw0_dead hv) (hA.up (by omega)) (side_put (K := 600 * k) h hB (by omega) (wz_eq h h0)) (full_RZ h h0 fB), fun rd => sERw01 (Aw := hz.AB) (Dw := hz.DS) (R := hz.shaN) rd hv ⟨⟨⟨⟨⟨⟨⟨⟨⟨⟨⟨⟨⟨⟨⟨⟨⟨trivial, (by first | omega | (simp only [nI, decide_eq_true_eq, decide_eq_false_iff_not, mostBytes, List.length_nil, Nat.mul_one]; omega))⟩, (by first | omega | (simp only [nI, decide_eq_true_eq, decide_eq_false_iff_not, mostBytes, List.length_nil, Nat.mul_one]; omega))⟩, (by first | omega | (simp only [nI, decide_eq_true_eq, decide_eq_false_iff_not, mostBytes, List.length_nil, Nat.mul_one]; omega))⟩, htw⟩, (w0t hw0)⟩, (by first | omega | (simp only [nI, decide_eq_true_eq, decide_eq_false_iff_not, mostBytes, List.length_nil, Nat.mul_one]; omega))⟩, ⟨hq, (by first | omega | (simp only [nI, decide_eq_true_eq, decide_eq_false_iff_not, mostBytes, List.length_nil, Nat.mul_one]; omega))⟩⟩, (a22 h hB (wz_eq h h0) (by omega))⟩, (by rw [h0, row_nil h h0]; simp [layI])⟩, hq⟩, (str_of (wz_eq h h0))⟩, (by first | omega | (simp only [nI, decide_eq_true_eq, decide_eq_false_iff_not, mostBytes, List.length_nil, Nat.mul_one]; omega))⟩, (by first | omega | (simp only [nI, decide_eq_true_eq, decide_eq_false_iff_not, mostBytes, List.length_nil, Nat.mul_one]; omega))⟩, (by first | omega | (simp only [nI, decide_eq_true_eq, decide_eq_false_iff_not, mostBytes, List.length_nil, Nat.mul_one]; omega))⟩, (by first | omega | (simp only [nI, decide_eq_true_eq, decide_eq_false_iff_not, mostBytes, List.length_nil, Nat.mul_one]; omega))⟩, ⟨hq, (by first | omega | (simp only [nI, decide_eq_true_eq, decide_eq_false_iff_not, mostBytes, List.length_nil, Nat.mul_one]; omega))⟩⟩, (fk_of (by omega))⟩⟩
theorem qRRs0 {x : Acts} {n c k : Nat} {A B : Sd} {M N : List Int} {v : VF} (h : At x n k) (hv : ∀ i, DeadV (v i)) (hA : Side A M (600 * k)) (hB : Side B N (600 * k)) (fA : Full A M) (fB : Full B N) (htw : x.tw (ix k) = false) (hw0 : x.wh (ix k) ≠ 0) (hw1 : x.wh (ix k) = 1) :
    ∃ tz, Good x n c (k + 1) tz ∧ ∀ rd, Step Try.prog rd (sE x n c) lb (st HRR x n c k A B v) (fun e t => e = .normal ∧ t = tz) := by
  have hlt := h.lt
  have hfw := h.few
  have hs := h.short
  have hl := h.len
  have hq := h.mem
  have bA := hA.bound (by omega)
  have bB := hB.bound (by omega)
  have fa1 := fA.a
  have fa2 := fA.pos
  have fa3 := fA.le
  have fa4 := congrArg List.length fA.m1
  have fa5 := hA.len
  have fb1 := fB.a
  have fb2 := fB.pos
  have fb3 := fB.le
  have fb4 := congrArg List.length fB.m1
  have fb5 := hB.len
  exact ⟨_, gRR (Vs_dead hv) (hA.up (by omega)) fA (hB.up (by omega)) fB, fun rd => sRRs0 (Aw := hz.AB) (Dw := hz.DS) (R := hz.shaN) rd hv ⟨⟨⟨⟨⟨⟨⟨⟨⟨⟨⟨⟨⟨⟨⟨⟨⟨⟨⟨⟨⟨⟨⟨⟨⟨⟨⟨⟨⟨⟨trivial, (by first | omega | (simp only [nI, decide_eq_true_eq, decide_eq_false_iff_not, mostBytes, List.length_nil, Nat.mul_one]; omega))⟩, (by first | omega | (simp only [nI, decide_eq_true_eq, decide_eq_false_iff_not, mostBytes, List.length_nil, Nat.mul_one]; omega))⟩, (by first | omega | (simp only [nI, decide_eq_true_eq, decide_eq_false_iff_not, mostBytes, List.length_nil, Nat.mul_one]; omega))⟩, htw⟩, (w0f hw0)⟩, (w1t hw1)⟩, (a23 hA (by omega))⟩, (q12_of fA (by have := hA.len; omega))⟩, (cq (sum_of hA fA.m1) sw.N5.a 3)⟩, (cq (sum_of hA fA.m1) sw.N5.a 2)⟩, (cq (sum_of hA fA.m1) sw.N5.a 1)⟩, (cq (sum_of hA fA.m1) sw.N5.a 0)⟩, (cq (sum_of hA fA.m1) sw.N5.b 3)⟩, (cq (sum_of hA fA.m1) sw.N5.b 2)⟩, (cq (sum_of hA fA.m1) sw.N5.b 1)⟩, (cq (sum_of hA fA.m1) sw.N5.b 0)⟩, (cq (sum_of hA fA.m1) sw.N5.c 3)⟩, (cq (sum_of hA fA.m1) sw.N5.c 2)⟩, (cq (sum_of hA fA.m1) sw.N5.c 1)⟩, (cq (sum_of hA fA.m1) sw.N5.c 0)⟩, (cq (sum_of hA fA.m1) sw.N5.d 3)⟩, (cq (sum_of hA fA.m1) sw.N5.d 2)⟩, (cq (sum_of hA fA.m1) sw.N5.d 1)⟩, (cq (sum_of hA fA.m1) sw.N5.d 0)⟩, (cq (sum_of hA fA.m1) sw.N5.e 3)⟩, (cq (sum_of hA fA.m1) sw.N5.e 2)⟩, (cq (sum_of hA fA.m1) sw.N5.e 1)⟩, (cq (sum_of hA fA.m1) sw.N5.e 0)⟩, (cD_of hA fA)⟩, (fk_of (by omega))⟩⟩
theorem qRRs1 {x : Acts} {n c k : Nat} {A B : Sd} {M N : List Int} {v : VF} (h : At x n k) (hv : ∀ i, DeadV (v i)) (hA : Side A M (600 * k)) (hB : Side B N (600 * k)) (fA : Full A M) (fB : Full B N) (htw : x.tw (ix k) = true) (hw0 : x.wh (ix k) ≠ 0) (hw1 : x.wh (ix k) = 1) :
    ∃ tz, Good x n c (k + 1) tz ∧ ∀ rd, Step Try.prog rd (sE x n c) lb (st HRR x n c k A B v) (fun e t => e = .normal ∧ t = tz) := by
  have hlt := h.lt
  have hfw := h.few
  have hs := h.short
  have hl := h.len
  have hq := h.mem
  have bA := hA.bound (by omega)
  have bB := hB.bound (by omega)
  have fa1 := fA.a
  have fa2 := fA.pos
  have fa3 := fA.le
  have fa4 := congrArg List.length fA.m1
  have fa5 := hA.len
  have fb1 := fB.a
  have fb2 := fB.pos
  have fb3 := fB.le
  have fb4 := congrArg List.length fB.m1
  have fb5 := hB.len
  exact ⟨_, gRR (Vs_dead hv) (hA.up (by omega)) fA (hB.up (by omega)) fB, fun rd => sRRs1 (Aw := hz.AB) (Dw := hz.DS) (R := hz.shaN) rd hv ⟨⟨⟨⟨⟨⟨⟨⟨⟨⟨⟨⟨⟨⟨⟨⟨⟨⟨⟨⟨⟨⟨⟨⟨⟨⟨⟨⟨⟨⟨trivial, (by first | omega | (simp only [nI, decide_eq_true_eq, decide_eq_false_iff_not, mostBytes, List.length_nil, Nat.mul_one]; omega))⟩, (by first | omega | (simp only [nI, decide_eq_true_eq, decide_eq_false_iff_not, mostBytes, List.length_nil, Nat.mul_one]; omega))⟩, (by first | omega | (simp only [nI, decide_eq_true_eq, decide_eq_false_iff_not, mostBytes, List.length_nil, Nat.mul_one]; omega))⟩, htw⟩, (w0f hw0)⟩, (w1t hw1)⟩, (a23 hB (by omega))⟩, (q12_of fB (by have := hB.len; omega))⟩, (cq (sum_of hB fB.m1) sw.N5.a 3)⟩, (cq (sum_of hB fB.m1) sw.N5.a 2)⟩, (cq (sum_of hB fB.m1) sw.N5.a 1)⟩, (cq (sum_of hB fB.m1) sw.N5.a 0)⟩, (cq (sum_of hB fB.m1) sw.N5.b 3)⟩, (cq (sum_of hB fB.m1) sw.N5.b 2)⟩, (cq (sum_of hB fB.m1) sw.N5.b 1)⟩, (cq (sum_of hB fB.m1) sw.N5.b 0)⟩, (cq (sum_of hB fB.m1) sw.N5.c 3)⟩, (cq (sum_of hB fB.m1) sw.N5.c 2)⟩, (cq (sum_of hB fB.m1) sw.N5.c 1)⟩, (cq (sum_of hB fB.m1) sw.N5.c 0)⟩, (cq (sum_of hB fB.m1) sw.N5.d 3)⟩, (cq (sum_of hB fB.m1) sw.N5.d 2)⟩, (cq (sum_of hB fB.m1) sw.N5.d 1)⟩, (cq (sum_of hB fB.m1) sw.N5.d 0)⟩, (cq (sum_of hB fB.m1) sw.N5.e 3)⟩, (cq (sum_of hB fB.m1) sw.N5.e 2)⟩, (cq (sum_of hB fB.m1) sw.N5.e 1)⟩, (cq (sum_of hB fB.m1) sw.N5.e 0)⟩, (cD_of hB fB)⟩, (fk_of (by omega))⟩⟩
theorem qRRc0 {x : Acts} {n c k : Nat} {A B : Sd} {M N : List Int} {v : VF} (h : At x n k) (hv : ∀ i, DeadV (v i)) (hA : Side A M (600 * k)) (hB : Side B N (600 * k)) (fA : Full A M) (fB : Full B N) (htw : x.tw (ix k) = false) (hw0 : x.wh (ix k) ≠ 0) (hw1 : x.wh (ix k) ≠ 1) :
    ∃ tz, Good x n c (k + 1) tz ∧ ∀ rd, Step Try.prog rd (sE x n c) lb (st HRR x n c k A B v) (fun e t => e = .normal ∧ t = tz) := by
  have hlt := h.lt
  have hfw := h.few
  have hs := h.short
  have hl := h.len
  have hq := h.mem
  have bA := hA.bound (by omega)
  have bB := hB.bound (by omega)
  have fa1 := fA.a
  have fa2 := fA.pos
  have fa3 := fA.le
  have fa4 := congrArg List.length fA.m1
  have fa5 := hA.len
  have fb1 := fB.a
  have fb2 := fB.pos
  have fb3 := fB.le
  have fb4 := congrArg List.length fB.m1
  have fb5 := hB.len
  exact ⟨_, gSS (Vc_dead hv) (Side.any (hB.up (by omega)) _ _ _) (Full.any fB _ _) (Side.any (hB.up (by omega)) _ _ _), fun rd => sRRc0 (Aw := hz.AB) (Dw := hz.DS) (R := hz.shaN) rd hv ⟨⟨⟨⟨⟨⟨⟨trivial, (by first | omega | (simp only [nI, decide_eq_true_eq, decide_eq_false_iff_not, mostBytes, List.length_nil, Nat.mul_one]; omega))⟩, (by first | omega | (simp only [nI, decide_eq_true_eq, decide_eq_false_iff_not, mostBytes, List.length_nil, Nat.mul_one]; omega))⟩, (by first | omega | (simp only [nI, decide_eq_true_eq, decide_eq_false_iff_not, mostBytes, List.length_nil, Nat.mul_one]; omega))⟩, htw⟩, (w0f hw0)⟩, (w1f hw1)⟩, (fk_of (by omega))⟩⟩
theorem qRRc1 {x : Acts} {n c k : Nat} {A B : Sd} {M N : List Int} {v : VF} (h : At x n k) (hv : ∀ i, DeadV (v i)) (hA : Side A M (600 * k)) (hB : Side B N (600 * k)) (fA : Full A M) (fB : Full B N) (htw : x.tw (ix k) = true) (hw0 : x.wh (ix k) ≠ 0) (hw1 : x.wh (ix k) ≠ 1) :
    ∃ tz, Good x n c (k + 1) tz ∧ ∀ rd, Step Try.prog rd (sE x n c) lb (st HRR x n c k A B v) (fun e t => e = .normal ∧ t = tz) := by
  have hlt := h.lt
  have hfw := h.few
  have hs := h.short
  have hl := h.len
  have hq := h.mem
  have bA := hA.bound (by omega)
  have bB := hB.bound (by omega)
  have fa1 := fA.a
  have fa2 := fA.pos
  have fa3 := fA.le
  have fa4 := congrArg List.length fA.m1
  have fa5 := hA.len
  have fb1 := fB.a
  have fb2 := fB.pos
  have fb3 := fB.le
  have fb4 := congrArg List.length fB.m1
  have fb5 := hB.len
  exact ⟨_, gSS (Vc_dead hv) (Side.any (hA.up (by omega)) _ _ _) (Full.any fA _ _) (Side.any (hA.up (by omega)) _ _ _), fun rd => sRRc1 (Aw := hz.AB) (Dw := hz.DS) (R := hz.shaN) rd hv ⟨⟨⟨⟨⟨⟨⟨trivial, (by first | omega | (simp only [nI, decide_eq_true_eq, decide_eq_false_iff_not, mostBytes, List.length_nil, Nat.mul_one]; omega))⟩, (by first | omega | (simp only [nI, decide_eq_true_eq, decide_eq_false_iff_not, mostBytes, List.length_nil, Nat.mul_one]; omega))⟩, (by first | omega | (simp only [nI, decide_eq_true_eq, decide_eq_false_iff_not, mostBytes, List.length_nil, Nat.mul_one]; omega))⟩, htw⟩, (w0f hw0)⟩, (w1f hw1)⟩, (fk_of (by omega))⟩⟩
theorem qRRw10 {x : Acts} {n c k : Nat} {A B : Sd} {M N : List Int} {v : VF} (h : At x n k) (hv : ∀ i, DeadV (v i)) (hA : Side A M (600 * k)) (hB : Side B N (600 * k)) (fA : Full A M) (fB : Full B N) (htw : x.tw (ix k) = false) (hw0 : x.wh (ix k) = 0) (h0 : x.m (ix k) ≠ 0) :
    ∃ tz, Good x n c (k + 1) tz ∧ ∀ rd, Step Try.prog rd (sE x n c) lb (st HRR x n c k A B v) (fun e t => e = .normal ∧ t = tz) := by
  have hlt := h.lt
  have hfw := h.few
  have hs := h.short
  have hl := h.len
  have hq := h.mem
  have bA := hA.bound (by omega)
  have bB := hB.bound (by omega)
  have fa1 := fA.a
  have fa2 := fA.pos
  have fa3 := fA.le
  have fa4 := congrArg List.length fA.m1
  have fa5 := hA.len
  have fb1 := fB.a
  have fb2 := fB.pos
  have fb3 := fB.le
  have fb4 := congrArg List.length fB.m1
  have fb5 := hB.len
  exact ⟨_, gRR (Vw1_dead hv) (side_put (K := 600 * k) h hA (by omega) (wf_eq h)) (full_RF h fA) (hB.up (by omega)) fB, fun rd => sRRw10 (Aw := hz.AB) (Dw := hz.DS) (R := hz.shaN) rd hv ⟨⟨⟨⟨⟨⟨⟨⟨⟨⟨⟨⟨⟨⟨⟨⟨⟨trivial, (by first | omega | (simp only [nI, decide_eq_true_eq, decide_eq_false_iff_not, mostBytes, List.length_nil, Nat.mul_one]; omega))⟩, (by first | omega | (simp only [nI, decide_eq_true_eq, decide_eq_false_iff_not, mostBytes, List.length_nil, Nat.mul_one]; omega))⟩, (by first | omega | (simp only [nI, decide_eq_true_eq, decide_eq_false_iff_not, mostBytes, List.length_nil, Nat.mul_one]; omega))⟩, htw⟩, (w0t hw0)⟩, (by first | omega | (simp only [nI, decide_eq_true_eq, decide_eq_false_iff_not, mostBytes, List.length_nil, Nat.mul_one]; omega))⟩, ⟨hq, (by first | omega | (simp only [nI, decide_eq_true_eq, decide_eq_false_iff_not, mostBytes, List.length_nil, Nat.mul_one]; omega))⟩⟩, (a22 h hA (wf_eq h) (by omega))⟩, (by first | omega | (simp only [nI, decide_eq_true_eq, decide_eq_false_iff_not, mostBytes, List.length_nil, Nat.mul_one]; omega))⟩, hq⟩, (str_of (wf_eq h))⟩, (fun rd => loopJ hRR jnRR jxRR joRR x n c k _ _ (Vpre v) 0 (rowx x k) (x.m (ix k)) rfl (by omega) (by omega) hl (Vpre_dead hv) rd)⟩, (by first | omega | (simp only [nI, decide_eq_true_eq, decide_eq_false_iff_not, mostBytes, List.length_nil, Nat.mul_one]; omega))⟩, (by first | omega | (simp only [nI, decide_eq_true_eq, decide_eq_false_iff_not, mostBytes, List.length_nil, Nat.mul_one]; omega))⟩, (by first | omega | (simp only [nI, decide_eq_true_eq, decide_eq_false_iff_not, mostBytes, List.length_nil, Nat.mul_one]; omega))⟩, ⟨hq, (by first | omega | (simp only [nI, decide_eq_true_eq, decide_eq_false_iff_not, mostBytes, List.length_nil, Nat.mul_one]; omega))⟩⟩, (fk_of (by omega))⟩⟩
theorem qRRw11 {x : Acts} {n c k : Nat} {A B : Sd} {M N : List Int} {v : VF} (h : At x n k) (hv : ∀ i, DeadV (v i)) (hA : Side A M (600 * k)) (hB : Side B N (600 * k)) (fA : Full A M) (fB : Full B N) (htw : x.tw (ix k) = true) (hw0 : x.wh (ix k) = 0) (h0 : x.m (ix k) ≠ 0) :
    ∃ tz, Good x n c (k + 1) tz ∧ ∀ rd, Step Try.prog rd (sE x n c) lb (st HRR x n c k A B v) (fun e t => e = .normal ∧ t = tz) := by
  have hlt := h.lt
  have hfw := h.few
  have hs := h.short
  have hl := h.len
  have hq := h.mem
  have bA := hA.bound (by omega)
  have bB := hB.bound (by omega)
  have fa1 := fA.a
  have fa2 := fA.pos
  have fa3 := fA.le
  have fa4 := congrArg List.length fA.m1
  have fa5 := hA.len
  have fb1 := fB.a
  have fb2 := fB.pos
  have fb3 := fB.le
  have fb4 := congrArg List.length fB.m1
  have fb5 := hB.len
  exact ⟨_, gRR (Vw1_dead hv) (hA.up (by omega)) fA (side_put (K := 600 * k) h hB (by omega) (wf_eq h)) (full_RF h fB), fun rd => sRRw11 (Aw := hz.AB) (Dw := hz.DS) (R := hz.shaN) rd hv ⟨⟨⟨⟨⟨⟨⟨⟨⟨⟨⟨⟨⟨⟨⟨⟨⟨trivial, (by first | omega | (simp only [nI, decide_eq_true_eq, decide_eq_false_iff_not, mostBytes, List.length_nil, Nat.mul_one]; omega))⟩, (by first | omega | (simp only [nI, decide_eq_true_eq, decide_eq_false_iff_not, mostBytes, List.length_nil, Nat.mul_one]; omega))⟩, (by first | omega | (simp only [nI, decide_eq_true_eq, decide_eq_false_iff_not, mostBytes, List.length_nil, Nat.mul_one]; omega))⟩, htw⟩, (w0t hw0)⟩, (by first | omega | (simp only [nI, decide_eq_true_eq, decide_eq_false_iff_not, mostBytes, List.length_nil, Nat.mul_one]; omega))⟩, ⟨hq, (by first | omega | (simp only [nI, decide_eq_true_eq, decide_eq_false_iff_not, mostBytes, List.length_nil, Nat.mul_one]; omega))⟩⟩, (a22 h hB (wf_eq h) (by omega))⟩, (by first | omega | (simp only [nI, decide_eq_true_eq, decide_eq_false_iff_not, mostBytes, List.length_nil, Nat.mul_one]; omega))⟩, hq⟩, (str_of (wf_eq h))⟩, (fun rd => loopJ hRR jnRR jxRR joRR x n c k _ _ (Vpre v) 1 (rowx x k) (x.m (ix k)) rfl (by omega) (by omega) hl (Vpre_dead hv) rd)⟩, (by first | omega | (simp only [nI, decide_eq_true_eq, decide_eq_false_iff_not, mostBytes, List.length_nil, Nat.mul_one]; omega))⟩, (by first | omega | (simp only [nI, decide_eq_true_eq, decide_eq_false_iff_not, mostBytes, List.length_nil, Nat.mul_one]; omega))⟩, (by first | omega | (simp only [nI, decide_eq_true_eq, decide_eq_false_iff_not, mostBytes, List.length_nil, Nat.mul_one]; omega))⟩, ⟨hq, (by first | omega | (simp only [nI, decide_eq_true_eq, decide_eq_false_iff_not, mostBytes, List.length_nil, Nat.mul_one]; omega))⟩⟩, (fk_of (by omega))⟩⟩
theorem qRRw00 {x : Acts} {n c k : Nat} {A B : Sd} {M N : List Int} {v : VF} (h : At x n k) (hv : ∀ i, DeadV (v i)) (hA : Side A M (600 * k)) (hB : Side B N (600 * k)) (fA : Full A M) (fB : Full B N) (htw : x.tw (ix k) = false) (hw0 : x.wh (ix k) = 0) (h0 : x.m (ix k) = 0) :
    ∃ tz, Good x n c (k + 1) tz ∧ ∀ rd, Step Try.prog rd (sE x n c) lb (st HRR x n c k A B v) (fun e t => e = .normal ∧ t = tz) := by
  have hlt := h.lt
  have hfw := h.few
  have hs := h.short
  have hl := h.len
  have hq := h.mem
  have bA := hA.bound (by omega)
  have bB := hB.bound (by omega)
  have fa1 := fA.a
  have fa2 := fA.pos
  have fa3 := fA.le
  have fa4 := congrArg List.length fA.m1
  have fa5 := hA.len
  have fb1 := fB.a
  have fb2 := fB.pos
  have fb3 := fB.le
  have fb4 := congrArg List.length fB.m1
  have fb5 := hB.len
  exact ⟨_, gRR (Vw0_dead hv) (side_put (K := 600 * k) h hA (by omega) (wz_eq h h0)) (full_RZ h h0 fA) (hB.up (by omega)) fB, fun rd => sRRw00 (Aw := hz.AB) (Dw := hz.DS) (R := hz.shaN) rd hv ⟨⟨⟨⟨⟨⟨⟨⟨⟨⟨⟨⟨⟨⟨⟨⟨⟨trivial, (by first | omega | (simp only [nI, decide_eq_true_eq, decide_eq_false_iff_not, mostBytes, List.length_nil, Nat.mul_one]; omega))⟩, (by first | omega | (simp only [nI, decide_eq_true_eq, decide_eq_false_iff_not, mostBytes, List.length_nil, Nat.mul_one]; omega))⟩, (by first | omega | (simp only [nI, decide_eq_true_eq, decide_eq_false_iff_not, mostBytes, List.length_nil, Nat.mul_one]; omega))⟩, htw⟩, (w0t hw0)⟩, (by first | omega | (simp only [nI, decide_eq_true_eq, decide_eq_false_iff_not, mostBytes, List.length_nil, Nat.mul_one]; omega))⟩, ⟨hq, (by first | omega | (simp only [nI, decide_eq_true_eq, decide_eq_false_iff_not, mostBytes, List.length_nil, Nat.mul_one]; omega))⟩⟩, (a22 h hA (wz_eq h h0) (by omega))⟩, (by rw [h0, row_nil h h0]; simp [layI])⟩, hq⟩, (str_of (wz_eq h h0))⟩, (by first | omega | (simp only [nI, decide_eq_true_eq, decide_eq_false_iff_not, mostBytes, List.length_nil, Nat.mul_one]; omega))⟩, (by first | omega | (simp only [nI, decide_eq_true_eq, decide_eq_false_iff_not, mostBytes, List.length_nil, Nat.mul_one]; omega))⟩, (by first | omega | (simp only [nI, decide_eq_true_eq, decide_eq_false_iff_not, mostBytes, List.length_nil, Nat.mul_one]; omega))⟩, (by first | omega | (simp only [nI, decide_eq_true_eq, decide_eq_false_iff_not, mostBytes, List.length_nil, Nat.mul_one]; omega))⟩, ⟨hq, (by first | omega | (simp only [nI, decide_eq_true_eq, decide_eq_false_iff_not, mostBytes, List.length_nil, Nat.mul_one]; omega))⟩⟩, (fk_of (by omega))⟩⟩
theorem qRRw01 {x : Acts} {n c k : Nat} {A B : Sd} {M N : List Int} {v : VF} (h : At x n k) (hv : ∀ i, DeadV (v i)) (hA : Side A M (600 * k)) (hB : Side B N (600 * k)) (fA : Full A M) (fB : Full B N) (htw : x.tw (ix k) = true) (hw0 : x.wh (ix k) = 0) (h0 : x.m (ix k) = 0) :
    ∃ tz, Good x n c (k + 1) tz ∧ ∀ rd, Step Try.prog rd (sE x n c) lb (st HRR x n c k A B v) (fun e t => e = .normal ∧ t = tz) := by
  have hlt := h.lt
  have hfw := h.few
  have hs := h.short
  have hl := h.len
  have hq := h.mem
  have bA := hA.bound (by omega)
  have bB := hB.bound (by omega)
  have fa1 := fA.a
  have fa2 := fA.pos
  have fa3 := fA.le
  have fa4 := congrArg List.length fA.m1
  have fa5 := hA.len
  have fb1 := fB.a
  have fb2 := fB.pos
  have fb3 := fB.le
  have fb4 := congrArg List.length fB.m1
  have fb5 := hB.len
  exact ⟨_, gRR (Vw0_dead hv) (hA.up (by omega)) fA (side_put (K := 600 * k) h hB (by omega) (wz_eq h h0)) (full_RZ h h0 fB), fun rd => sRRw01 (Aw := hz.AB) (Dw := hz.DS) (R := hz.shaN) rd hv ⟨⟨⟨⟨⟨⟨⟨⟨⟨⟨⟨⟨⟨⟨⟨⟨⟨trivial, (by first | omega | (simp only [nI, decide_eq_true_eq, decide_eq_false_iff_not, mostBytes, List.length_nil, Nat.mul_one]; omega))⟩, (by first | omega | (simp only [nI, decide_eq_true_eq, decide_eq_false_iff_not, mostBytes, List.length_nil, Nat.mul_one]; omega))⟩, (by first | omega | (simp only [nI, decide_eq_true_eq, decide_eq_false_iff_not, mostBytes, List.length_nil, Nat.mul_one]; omega))⟩, htw⟩, (w0t hw0)⟩, (by first | omega | (simp only [nI, decide_eq_true_eq, decide_eq_false_iff_not, mostBytes, List.length_nil, Nat.mul_one]; omega))⟩, ⟨hq, (by first | omega | (simp only [nI, decide_eq_true_eq, decide_eq_false_iff_not, mostBytes, List.length_nil, Nat.mul_one]; omega))⟩⟩, (a22 h hB (wz_eq h h0) (by omega))⟩, (by rw [h0, row_nil h h0]; simp [layI])⟩, hq⟩, (str_of (wz_eq h h0))⟩, (by first | omega | (simp only [nI, decide_eq_true_eq, decide_eq_false_iff_not, mostBytes, List.length_nil, Nat.mul_one]; omega))⟩, (by first | omega | (simp only [nI, decide_eq_true_eq, decide_eq_false_iff_not, mostBytes, List.length_nil, Nat.mul_one]; omega))⟩, (by first | omega | (simp only [nI, decide_eq_true_eq, decide_eq_false_iff_not, mostBytes, List.length_nil, Nat.mul_one]; omega))⟩, (by first | omega | (simp only [nI, decide_eq_true_eq, decide_eq_false_iff_not, mostBytes, List.length_nil, Nat.mul_one]; omega))⟩, ⟨hq, (by first | omega | (simp only [nI, decide_eq_true_eq, decide_eq_false_iff_not, mostBytes, List.length_nil, Nat.mul_one]; omega))⟩⟩, (fk_of (by omega))⟩⟩
theorem qSSs0 {x : Acts} {n c k : Nat} {A B : Sd} {M N : List Int} {v : VF} (h : At x n k) (hv : ∀ i, DeadV (v i)) (hA : Side A M (600 * k)) (hB : Side B M (600 * k)) (fA : Full A M) (htw : x.tw (ix k) = false) (hw0 : x.wh (ix k) ≠ 0) (hw1 : x.wh (ix k) = 1) :
    ∃ tz, Good x n c (k + 1) tz ∧ ∀ rd, Step Try.prog rd (sE x n c) lb (st HSS x n c k A B v) (fun e t => e = .normal ∧ t = tz) := by
  have hlt := h.lt
  have hfw := h.few
  have hs := h.short
  have hl := h.len
  have hq := h.mem
  have bA := hA.bound (by omega)
  have bB := hB.bound (by omega)
  have fa1 := fA.a
  have fa2 := fA.pos
  have fa3 := fA.le
  have fa4 := congrArg List.length fA.m1
  have fa5 := hA.len
  exact ⟨_, gSS (Vs_dead hv) (hA.up (by omega)) fA (hB.up (by omega)), fun rd => sSSs0 (Aw := hz.AB) (Dw := hz.DS) (R := hz.shaN) rd hv ⟨⟨⟨⟨⟨⟨⟨⟨⟨⟨⟨⟨⟨⟨⟨⟨⟨⟨⟨⟨⟨⟨⟨⟨⟨⟨⟨⟨⟨⟨trivial, (by first | omega | (simp only [nI, decide_eq_true_eq, decide_eq_false_iff_not, mostBytes, List.length_nil, Nat.mul_one]; omega))⟩, (by first | omega | (simp only [nI, decide_eq_true_eq, decide_eq_false_iff_not, mostBytes, List.length_nil, Nat.mul_one]; omega))⟩, (by first | omega | (simp only [nI, decide_eq_true_eq, decide_eq_false_iff_not, mostBytes, List.length_nil, Nat.mul_one]; omega))⟩, htw⟩, (w0f hw0)⟩, (w1t hw1)⟩, (a23 hA (by omega))⟩, (q12_of fA (by have := hA.len; omega))⟩, (cq (sum_of hA fA.m1) sw.N5.a 3)⟩, (cq (sum_of hA fA.m1) sw.N5.a 2)⟩, (cq (sum_of hA fA.m1) sw.N5.a 1)⟩, (cq (sum_of hA fA.m1) sw.N5.a 0)⟩, (cq (sum_of hA fA.m1) sw.N5.b 3)⟩, (cq (sum_of hA fA.m1) sw.N5.b 2)⟩, (cq (sum_of hA fA.m1) sw.N5.b 1)⟩, (cq (sum_of hA fA.m1) sw.N5.b 0)⟩, (cq (sum_of hA fA.m1) sw.N5.c 3)⟩, (cq (sum_of hA fA.m1) sw.N5.c 2)⟩, (cq (sum_of hA fA.m1) sw.N5.c 1)⟩, (cq (sum_of hA fA.m1) sw.N5.c 0)⟩, (cq (sum_of hA fA.m1) sw.N5.d 3)⟩, (cq (sum_of hA fA.m1) sw.N5.d 2)⟩, (cq (sum_of hA fA.m1) sw.N5.d 1)⟩, (cq (sum_of hA fA.m1) sw.N5.d 0)⟩, (cq (sum_of hA fA.m1) sw.N5.e 3)⟩, (cq (sum_of hA fA.m1) sw.N5.e 2)⟩, (cq (sum_of hA fA.m1) sw.N5.e 1)⟩, (cq (sum_of hA fA.m1) sw.N5.e 0)⟩, (cD_of hA fA)⟩, (fk_of (by omega))⟩⟩
theorem qSSs1 {x : Acts} {n c k : Nat} {A B : Sd} {M N : List Int} {v : VF} (h : At x n k) (hv : ∀ i, DeadV (v i)) (hA : Side A M (600 * k)) (hB : Side B M (600 * k)) (fA : Full A M) (htw : x.tw (ix k) = true) (hw0 : x.wh (ix k) ≠ 0) (hw1 : x.wh (ix k) = 1) :
    ∃ tz, Good x n c (k + 1) tz ∧ ∀ rd, Step Try.prog rd (sE x n c) lb (st HSS x n c k A B v) (fun e t => e = .normal ∧ t = tz) := by
  have hlt := h.lt
  have hfw := h.few
  have hs := h.short
  have hl := h.len
  have hq := h.mem
  have bA := hA.bound (by omega)
  have bB := hB.bound (by omega)
  have fa1 := fA.a
  have fa2 := fA.pos
  have fa3 := fA.le
  have fa4 := congrArg List.length fA.m1
  have fa5 := hA.len
  exact ⟨_, gSS (Vs_dead hv) (hA.up (by omega)) fA (hB.up (by omega)), fun rd => sSSs1 (Aw := hz.AB) (Dw := hz.DS) (R := hz.shaN) rd hv ⟨⟨⟨⟨⟨⟨⟨⟨⟨⟨⟨⟨⟨⟨⟨⟨⟨⟨⟨⟨⟨⟨⟨⟨⟨⟨⟨⟨⟨⟨trivial, (by first | omega | (simp only [nI, decide_eq_true_eq, decide_eq_false_iff_not, mostBytes, List.length_nil, Nat.mul_one]; omega))⟩, (by first | omega | (simp only [nI, decide_eq_true_eq, decide_eq_false_iff_not, mostBytes, List.length_nil, Nat.mul_one]; omega))⟩, (by first | omega | (simp only [nI, decide_eq_true_eq, decide_eq_false_iff_not, mostBytes, List.length_nil, Nat.mul_one]; omega))⟩, htw⟩, (w0f hw0)⟩, (w1t hw1)⟩, (a23 hB (by omega))⟩, (q12_of fA (by have := hA.len; omega))⟩, (cq (sum_of hB fA.m1) sw.N5.a 3)⟩, (cq (sum_of hB fA.m1) sw.N5.a 2)⟩, (cq (sum_of hB fA.m1) sw.N5.a 1)⟩, (cq (sum_of hB fA.m1) sw.N5.a 0)⟩, (cq (sum_of hB fA.m1) sw.N5.b 3)⟩, (cq (sum_of hB fA.m1) sw.N5.b 2)⟩, (cq (sum_of hB fA.m1) sw.N5.b 1)⟩, (cq (sum_of hB fA.m1) sw.N5.b 0)⟩, (cq (sum_of hB fA.m1) sw.N5.c 3)⟩, (cq (sum_of hB fA.m1) sw.N5.c 2)⟩, (cq (sum_of hB fA.m1) sw.N5.c 1)⟩, (cq (sum_of hB fA.m1) sw.N5.c 0)⟩, (cq (sum_of hB fA.m1) sw.N5.d 3)⟩, (cq (sum_of hB fA.m1) sw.N5.d 2)⟩, (cq (sum_of hB fA.m1) sw.N5.d 1)⟩, (cq (sum_of hB fA.m1) sw.N5.d 0)⟩, (cq (sum_of hB fA.m1) sw.N5.e 3)⟩, (cq (sum_of hB fA.m1) sw.N5.e 2)⟩, (cq (sum_of hB fA.m1) sw.N5.e 1)⟩, (cq (sum_of hB fA.m1) sw.N5.e 0)⟩, (cD_of hB fA)⟩, (fk_of (by omega))⟩⟩
theorem qSSc0 {x : Acts} {n c k : Nat} {A B : Sd} {M N : List Int} {v : VF} (h : At x n k) (hv : ∀ i, DeadV (v i)) (hA : Side A M (600 * k)) (hB : Side B M (600 * k)) (fA : Full A M) (htw : x.tw (ix k) = false) (hw0 : x.wh (ix k) ≠ 0) (hw1 : x.wh (ix k) ≠ 1) :
    ∃ tz, Good x n c (k + 1) tz ∧ ∀ rd, Step Try.prog rd (sE x n c) lb (st HSS x n c k A B v) (fun e t => e = .normal ∧ t = tz) := by
  have hlt := h.lt
  have hfw := h.few
  have hs := h.short
  have hl := h.len
  have hq := h.mem
  have bA := hA.bound (by omega)
  have bB := hB.bound (by omega)
  have fa1 := fA.a
  have fa2 := fA.pos
  have fa3 := fA.le
  have fa4 := congrArg List.length fA.m1
  have fa5 := hA.len
  exact ⟨_, gSS (Vc_dead hv) (Side.any (hB.up (by omega)) _ _ _) (Full.any fA _ _) (Side.any (hB.up (by omega)) _ _ _), fun rd => sSSc0 (Aw := hz.AB) (Dw := hz.DS) (R := hz.shaN) rd hv ⟨⟨⟨⟨⟨⟨⟨trivial, (by first | omega | (simp only [nI, decide_eq_true_eq, decide_eq_false_iff_not, mostBytes, List.length_nil, Nat.mul_one]; omega))⟩, (by first | omega | (simp only [nI, decide_eq_true_eq, decide_eq_false_iff_not, mostBytes, List.length_nil, Nat.mul_one]; omega))⟩, (by first | omega | (simp only [nI, decide_eq_true_eq, decide_eq_false_iff_not, mostBytes, List.length_nil, Nat.mul_one]; omega))⟩, htw⟩, (w0f hw0)⟩, (w1f hw1)⟩, (fk_of (by omega))⟩⟩
theorem qSSc1 {x : Acts} {n c k : Nat} {A B : Sd} {M N : List Int} {v : VF} (h : At x n k) (hv : ∀ i, DeadV (v i)) (hA : Side A M (600 * k)) (hB : Side B M (600 * k)) (fA : Full A M) (htw : x.tw (ix k) = true) (hw0 : x.wh (ix k) ≠ 0) (hw1 : x.wh (ix k) ≠ 1) :
    ∃ tz, Good x n c (k + 1) tz ∧ ∀ rd, Step Try.prog rd (sE x n c) lb (st HSS x n c k A B v) (fun e t => e = .normal ∧ t = tz) := by
  have hlt := h.lt
  have hfw := h.few
  have hs := h.short
  have hl := h.len
  have hq := h.mem
  have bA := hA.bound (by omega)
  have bB := hB.bound (by omega)
  have fa1 := fA.a
  have fa2 := fA.pos
  have fa3 := fA.le
  have fa4 := congrArg List.length fA.m1
  have fa5 := hA.len
  exact ⟨_, gSS (Vc_dead hv) (Side.any (hA.up (by omega)) _ _ _) (Full.any fA _ _) (Side.any (hA.up (by omega)) _ _ _), fun rd => sSSc1 (Aw := hz.AB) (Dw := hz.DS) (R := hz.shaN) rd hv ⟨⟨⟨⟨⟨⟨⟨trivial, (by first | omega | (simp only [nI, decide_eq_true_eq, decide_eq_false_iff_not, mostBytes, List.length_nil, Nat.mul_one]; omega))⟩, (by first | omega | (simp only [nI, decide_eq_true_eq, decide_eq_false_iff_not, mostBytes, List.length_nil, Nat.mul_one]; omega))⟩, (by first | omega | (simp only [nI, decide_eq_true_eq, decide_eq_false_iff_not, mostBytes, List.length_nil, Nat.mul_one]; omega))⟩, htw⟩, (w0f hw0)⟩, (w1f hw1)⟩, (fk_of (by omega))⟩⟩
theorem qSSw10 {x : Acts} {n c k : Nat} {A B : Sd} {M N : List Int} {v : VF} (h : At x n k) (hv : ∀ i, DeadV (v i)) (hA : Side A M (600 * k)) (hB : Side B M (600 * k)) (fA : Full A M) (htw : x.tw (ix k) = false) (hw0 : x.wh (ix k) = 0) (h0 : x.m (ix k) ≠ 0) :
    ∃ tz, Good x n c (k + 1) tz ∧ ∀ rd, Step Try.prog rd (sE x n c) lb (st HSS x n c k A B v) (fun e t => e = .normal ∧ t = tz) := by
  have hlt := h.lt
  have hfw := h.few
  have hs := h.short
  have hl := h.len
  have hq := h.mem
  have bA := hA.bound (by omega)
  have bB := hB.bound (by omega)
  have fa1 := fA.a
  have fa2 := fA.pos
  have fa3 := fA.le
  have fa4 := congrArg List.length fA.m1
  have fa5 := hA.len
  exact ⟨_, gRR (Vw1_dead hv) (side_put (K := 600 * k) h hA (by omega) (wf_eq h)) (full_RF h fA) (Side.any (hB.up (by omega)) _ _ _) (Full.any fA _ _), fun rd => sSSw10 (Aw := hz.AB) (Dw := hz.DS) (R := hz.shaN) rd hv ⟨⟨⟨⟨⟨⟨⟨⟨⟨⟨⟨⟨⟨⟨⟨⟨⟨trivial, (by first | omega | (simp only [nI, decide_eq_true_eq, decide_eq_false_iff_not, mostBytes, List.length_nil, Nat.mul_one]; omega))⟩, (by first | omega | (simp only [nI, decide_eq_true_eq, decide_eq_false_iff_not, mostBytes, List.length_nil, Nat.mul_one]; omega))⟩, (by first | omega | (simp only [nI, decide_eq_true_eq, decide_eq_false_iff_not, mostBytes, List.length_nil, Nat.mul_one]; omega))⟩, htw⟩, (w0t hw0)⟩, (by first | omega | (simp only [nI, decide_eq_true_eq, decide_eq_false_iff_not, mostBytes, List.length_nil, Nat.mul_one]; omega))⟩, ⟨hq, (by first | omega | (simp only [nI, decide_eq_true_eq, decide_eq_false_iff_not, mostBytes, List.length_nil, Nat.mul_one]; omega))⟩⟩, (a22 h hA (wf_eq h) (by omega))⟩, (by first | omega | (simp only [nI, decide_eq_true_eq, decide_eq_false_iff_not, mostBytes, List.length_nil, Nat.mul_one]; omega))⟩, hq⟩, (str_of (wf_eq h))⟩, (fun rd => loopJ hSS jnSS jxSS joSS x n c k _ _ (Vpre v) 0 (rowx x k) (x.m (ix k)) rfl (by omega) (by omega) hl (Vpre_dead hv) rd)⟩, (by first | omega | (simp only [nI, decide_eq_true_eq, decide_eq_false_iff_not, mostBytes, List.length_nil, Nat.mul_one]; omega))⟩, (by first | omega | (simp only [nI, decide_eq_true_eq, decide_eq_false_iff_not, mostBytes, List.length_nil, Nat.mul_one]; omega))⟩, (by first | omega | (simp only [nI, decide_eq_true_eq, decide_eq_false_iff_not, mostBytes, List.length_nil, Nat.mul_one]; omega))⟩, ⟨hq, (by first | omega | (simp only [nI, decide_eq_true_eq, decide_eq_false_iff_not, mostBytes, List.length_nil, Nat.mul_one]; omega))⟩⟩, (fk_of (by omega))⟩⟩
theorem qSSw11 {x : Acts} {n c k : Nat} {A B : Sd} {M N : List Int} {v : VF} (h : At x n k) (hv : ∀ i, DeadV (v i)) (hA : Side A M (600 * k)) (hB : Side B M (600 * k)) (fA : Full A M) (htw : x.tw (ix k) = true) (hw0 : x.wh (ix k) = 0) (h0 : x.m (ix k) ≠ 0) :
    ∃ tz, Good x n c (k + 1) tz ∧ ∀ rd, Step Try.prog rd (sE x n c) lb (st HSS x n c k A B v) (fun e t => e = .normal ∧ t = tz) := by
  have hlt := h.lt
  have hfw := h.few
  have hs := h.short
  have hl := h.len
  have hq := h.mem
  have bA := hA.bound (by omega)
  have bB := hB.bound (by omega)
  have fa1 := fA.a
  have fa2 := fA.pos
  have fa3 := fA.le
  have fa4 := congrArg List.length fA.m1
  have fa5 := hA.len
  exact ⟨_, gRR (Vw1_dead hv) (Side.any (hA.up (by omega)) _ _ _) (Full.any fA _ _) (side_put (K := 600 * k) h hB (by omega) (wf_eq h)) (full_RF h fA), fun rd => sSSw11 (Aw := hz.AB) (Dw := hz.DS) (R := hz.shaN) rd hv ⟨⟨⟨⟨⟨⟨⟨⟨⟨⟨⟨⟨⟨⟨⟨⟨⟨trivial, (by first | omega | (simp only [nI, decide_eq_true_eq, decide_eq_false_iff_not, mostBytes, List.length_nil, Nat.mul_one]; omega))⟩, (by first | omega | (simp only [nI, decide_eq_true_eq, decide_eq_false_iff_not, mostBytes, List.length_nil, Nat.mul_one]; omega))⟩, (by first | omega | (simp only [nI, decide_eq_true_eq, decide_eq_false_iff_not, mostBytes, List.length_nil, Nat.mul_one]; omega))⟩, htw⟩, (w0t hw0)⟩, (by first | omega | (simp only [nI, decide_eq_true_eq, decide_eq_false_iff_not, mostBytes, List.length_nil, Nat.mul_one]; omega))⟩, ⟨hq, (by first | omega | (simp only [nI, decide_eq_true_eq, decide_eq_false_iff_not, mostBytes, List.length_nil, Nat.mul_one]; omega))⟩⟩, (a22 h hB (wf_eq h) (by omega))⟩, (by first | omega | (simp only [nI, decide_eq_true_eq, decide_eq_false_iff_not, mostBytes, List.length_nil, Nat.mul_one]; omega))⟩, hq⟩, (str_of (wf_eq h))⟩, (fun rd => loopJ hSS jnSS jxSS joSS x n c k _ _ (Vpre v) 1 (rowx x k) (x.m (ix k)) rfl (by omega) (by omega) hl (Vpre_dead hv) rd)⟩, (by first | omega | (simp only [nI, decide_eq_true_eq, decide_eq_false_iff_not, mostBytes, List.length_nil, Nat.mul_one]; omega))⟩, (by first | omega | (simp only [nI, decide_eq_true_eq, decide_eq_false_iff_not, mostBytes, List.length_nil, Nat.mul_one]; omega))⟩, (by first | omega | (simp only [nI, decide_eq_true_eq, decide_eq_false_iff_not, mostBytes, List.length_nil, Nat.mul_one]; omega))⟩, ⟨hq, (by first | omega | (simp only [nI, decide_eq_true_eq, decide_eq_false_iff_not, mostBytes, List.length_nil, Nat.mul_one]; omega))⟩⟩, (fk_of (by omega))⟩⟩
theorem qSSw00 {x : Acts} {n c k : Nat} {A B : Sd} {M N : List Int} {v : VF} (h : At x n k) (hv : ∀ i, DeadV (v i)) (hA : Side A M (600 * k)) (hB : Side B M (600 * k)) (fA : Full A M) (htw : x.tw (ix k) = false) (hw0 : x.wh (ix k) = 0) (h0 : x.m (ix k) = 0) :
    ∃ tz, Good x n c (k + 1) tz ∧ ∀ rd, Step Try.prog rd (sE x n c) lb (st HSS x n c k A B v) (fun e t => e = .normal ∧ t = tz) := by
  have hlt := h.lt
  have hfw := h.few
  have hs := h.short
  have hl := h.len
  have hq := h.mem
  have bA := hA.bound (by omega)
  have bB := hB.bound (by omega)
  have fa1 := fA.a
  have fa2 := fA.pos
  have fa3 := fA.le
  have fa4 := congrArg List.length fA.m1
  have fa5 := hA.len
  exact ⟨_, gRR (Vw0_dead hv) (side_put (K := 600 * k) h hA (by omega) (wz_eq h h0)) (full_RZ h h0 fA) (Side.any (hB.up (by omega)) _ _ _) (Full.any fA _ _), fun rd => sSSw00 (Aw := hz.AB) (Dw := hz.DS) (R := hz.shaN) rd hv ⟨⟨⟨⟨⟨⟨⟨⟨⟨⟨⟨⟨⟨⟨⟨⟨⟨trivial, (by first | omega | (simp only [nI, decide_eq_true_eq, decide_eq_false_iff_not, mostBytes, List.length_nil, Nat.mul_one]; omega))⟩, (by first | omega | (simp only [nI, decide_eq_true_eq, decide_eq_false_iff_not, mostBytes, List.length_nil, Nat.mul_one]; omega))⟩, (by first | omega | (simp only [nI, decide_eq_true_eq, decide_eq_false_iff_not, mostBytes, List.length_nil, Nat.mul_one]; omega))⟩, htw⟩, (w0t hw0)⟩, (by first | omega | (simp only [nI, decide_eq_true_eq, decide_eq_false_iff_not, mostBytes, List.length_nil, Nat.mul_one]; omega))⟩, ⟨hq, (by first | omega | (simp only [nI, decide_eq_true_eq, decide_eq_false_iff_not, mostBytes, List.length_nil, Nat.mul_one]; omega))⟩⟩, (a22 h hA (wz_eq h h0) (by omega))⟩, (by rw [h0, row_nil h h0]; simp [layI])⟩, hq⟩, (str_of (wz_eq h h0))⟩, (by first | omega | (simp only [nI, decide_eq_true_eq, decide_eq_false_iff_not, mostBytes, List.length_nil, Nat.mul_one]; omega))⟩, (by first | omega | (simp only [nI, decide_eq_true_eq, decide_eq_false_iff_not, mostBytes, List.length_nil, Nat.mul_one]; omega))⟩, (by first | omega | (simp only [nI, decide_eq_true_eq, decide_eq_false_iff_not, mostBytes, List.length_nil, Nat.mul_one]; omega))⟩, (by first | omega | (simp only [nI, decide_eq_true_eq, decide_eq_false_iff_not, mostBytes, List.length_nil, Nat.mul_one]; omega))⟩, ⟨hq, (by first | omega | (simp only [nI, decide_eq_true_eq, decide_eq_false_iff_not, mostBytes, List.length_nil, Nat.mul_one]; omega))⟩⟩, (fk_of (by omega))⟩⟩
theorem qSSw01 {x : Acts} {n c k : Nat} {A B : Sd} {M N : List Int} {v : VF} (h : At x n k) (hv : ∀ i, DeadV (v i)) (hA : Side A M (600 * k)) (hB : Side B M (600 * k)) (fA : Full A M) (htw : x.tw (ix k) = true) (hw0 : x.wh (ix k) = 0) (h0 : x.m (ix k) = 0) :
    ∃ tz, Good x n c (k + 1) tz ∧ ∀ rd, Step Try.prog rd (sE x n c) lb (st HSS x n c k A B v) (fun e t => e = .normal ∧ t = tz) := by
  have hlt := h.lt
  have hfw := h.few
  have hs := h.short
  have hl := h.len
  have hq := h.mem
  have bA := hA.bound (by omega)
  have bB := hB.bound (by omega)
  have fa1 := fA.a
  have fa2 := fA.pos
  have fa3 := fA.le
  have fa4 := congrArg List.length fA.m1
  have fa5 := hA.len
  exact ⟨_, gRR (Vw0_dead hv) (Side.any (hA.up (by omega)) _ _ _) (Full.any fA _ _) (side_put (K := 600 * k) h hB (by omega) (wz_eq h h0)) (full_RZ h h0 fA), fun rd => sSSw01 (Aw := hz.AB) (Dw := hz.DS) (R := hz.shaN) rd hv ⟨⟨⟨⟨⟨⟨⟨⟨⟨⟨⟨⟨⟨⟨⟨⟨⟨trivial, (by first | omega | (simp only [nI, decide_eq_true_eq, decide_eq_false_iff_not, mostBytes, List.length_nil, Nat.mul_one]; omega))⟩, (by first | omega | (simp only [nI, decide_eq_true_eq, decide_eq_false_iff_not, mostBytes, List.length_nil, Nat.mul_one]; omega))⟩, (by first | omega | (simp only [nI, decide_eq_true_eq, decide_eq_false_iff_not, mostBytes, List.length_nil, Nat.mul_one]; omega))⟩, htw⟩, (w0t hw0)⟩, (by first | omega | (simp only [nI, decide_eq_true_eq, decide_eq_false_iff_not, mostBytes, List.length_nil, Nat.mul_one]; omega))⟩, ⟨hq, (by first | omega | (simp only [nI, decide_eq_true_eq, decide_eq_false_iff_not, mostBytes, List.length_nil, Nat.mul_one]; omega))⟩⟩, (a22 h hB (wz_eq h h0) (by omega))⟩, (by rw [h0, row_nil h h0]; simp [layI])⟩, hq⟩, (str_of (wz_eq h h0))⟩, (by first | omega | (simp only [nI, decide_eq_true_eq, decide_eq_false_iff_not, mostBytes, List.length_nil, Nat.mul_one]; omega))⟩, (by first | omega | (simp only [nI, decide_eq_true_eq, decide_eq_false_iff_not, mostBytes, List.length_nil, Nat.mul_one]; omega))⟩, (by first | omega | (simp only [nI, decide_eq_true_eq, decide_eq_false_iff_not, mostBytes, List.length_nil, Nat.mul_one]; omega))⟩, (by first | omega | (simp only [nI, decide_eq_true_eq, decide_eq_false_iff_not, mostBytes, List.length_nil, Nat.mul_one]; omega))⟩, ⟨hq, (by first | omega | (simp only [nI, decide_eq_true_eq, decide_eq_false_iff_not, mostBytes, List.length_nil, Nat.mul_one]; omega))⟩⟩, (fk_of (by omega))⟩⟩
end
end sq
end Go.Proofs.Yteknepfcbpoooaa
namespace Go.Proofs.Yteknepfcbpoooaa
open Go.ChangeShapes Go.WideShapes Go.ChangeAt Go.RowKit Go.Cln
namespace sq
set_option linter.unusedVariables false
noncomputable section
theorem xEE (x : Acts) (n c k : Nat) (A B : Sd) (v : VF) (rd : Option Nat) : goT (KT x hz.AB hz.DS hz.shaN) (st HEE x n c k A B v) rd [F] Bx (st HEE x n c k A B (Vx v)) [0, 1, 2, 3, 4, 5, 6, 7, 8, 9, 10, 11] = some (.exit 2, True ∧ decide (nI k < nI n) = false, seenAsT Bx (st HEE x n c k A B (Vx v)) [0, 1, 2, 3, 4, 5, 6, 7, 8, 9, 10, 11] 12) := by kernel_rfl
theorem sxEE {x : Acts} {n c : Nat} {A B : Sd} {v : VF} (rd : Option Nat) (hv : ∀ i, DeadV (v i)) : Step Try.prog rd (sE x n c) lb (st HEE x n c n A B v) (fun e t => e = .exit 2 ∧ t = st HEE x n c n A B (Vx v)) :=
  Step.stdT (s0 := sE x n c) sw.pg (KT_ok x hz.AB hz.DS hz.shaN) (B := Bx) (g := HEE x n A B) (xEE x n c n A B v rd) ⟨trivial, by simp only [nI, decide_eq_false_iff_not]; omega⟩ (show 8 ≤ 12 by decide) (tm_dead (Vx_dead hv) lv_x) (hEE x n _ _) rfl (by kernel_rfl)
theorem xRE (x : Acts) (n c k : Nat) (A B : Sd) (v : VF) (rd : Option Nat) : goT (KT x hz.AB hz.DS hz.shaN) (st HRE x n c k A B v) rd [F] Bx (st HRE x n c k A B (Vx v)) [0, 1, 2, 3, 4, 5, 6, 7, 8, 9, 10, 11] = some (.exit 2, True ∧ decide (nI k < nI n) = false, seenAsT Bx (st HRE x n c k A B (Vx v)) [0, 1, 2, 3, 4, 5, 6, 7, 8, 9, 10, 11] 12) := by kernel_rfl
theorem sxRE {x : Acts} {n c : Nat} {A B : Sd} {v : VF} (rd : Option Nat) (hv : ∀ i, DeadV (v i)) : Step Try.prog rd (sE x n c) lb (st HRE x n c n A B v) (fun e t => e = .exit 2 ∧ t = st HRE x n c n A B (Vx v)) :=
  Step.stdT (s0 := sE x n c) sw.pg (KT_ok x hz.AB hz.DS hz.shaN) (B := Bx) (g := HRE x n A B) (xRE x n c n A B v rd) ⟨trivial, by simp only [nI, decide_eq_false_iff_not]; omega⟩ (show 8 ≤ 12 by decide) (tm_dead (Vx_dead hv) lv_x) (hRE x n _ _) rfl (by kernel_rfl)
theorem xER (x : Acts) (n c k : Nat) (A B : Sd) (v : VF) (rd : Option Nat) : goT (KT x hz.AB hz.DS hz.shaN) (st HER x n c k A B v) rd [F] Bx (st HER x n c k A B (Vx v)) [0, 1, 2, 3, 4, 5, 6, 7, 8, 9, 10, 11] = some (.exit 2, True ∧ decide (nI k < nI n) = false, seenAsT Bx (st HER x n c k A B (Vx v)) [0, 1, 2, 3, 4, 5, 6, 7, 8, 9, 10, 11] 12) := by kernel_rfl
theorem sxER {x : Acts} {n c : Nat} {A B : Sd} {v : VF} (rd : Option Nat) (hv : ∀ i, DeadV (v i)) : Step Try.prog rd (sE x n c) lb (st HER x n c n A B v) (fun e t => e = .exit 2 ∧ t = st HER x n c n A B (Vx v)) :=
  Step.stdT (s0 := sE x n c) sw.pg (KT_ok x hz.AB hz.DS hz.shaN) (B := Bx) (g := HER x n A B) (xER x n c n A B v rd) ⟨trivial, by simp only [nI, decide_eq_false_iff_not]; omega⟩ (show 8 ≤ 12 by decide) (tm_dead (Vx_dead hv) lv_x) (hER x n _ _) rfl (by kernel_rfl)
theorem xRR (x : Acts) (n c k : Nat) (A B : Sd) (v : VF) (rd : Option Nat) : goT (KT x hz.AB hz.DS hz.shaN) (st HRR x n c k A B v) rd [F] Bx (st HRR x n c k A B (Vx v)) [0, 1, 2, 3, 4, 5, 6, 7, 8, 9, 10, 11] = some (.exit 2, True ∧ decide (nI k < nI n) = false, seenAsT Bx (st HRR x n c k A B (Vx v)) [0, 1, 2, 3, 4, 5, 6, 7, 8, 9, 10, 11] 12) := by kernel_rfl
theorem sxRR {x : Acts} {n c : Nat} {A B : Sd} {v : VF} (rd : Option Nat) (hv : ∀ i, DeadV (v i)) : Step Try.prog rd (sE x n c) lb (st HRR x n c n A B v) (fun e t => e = .exit 2 ∧ t = st HRR x n c n A B (Vx v)) :=
  Step.stdT (s0 := sE x n c) sw.pg (KT_ok x hz.AB hz.DS hz.shaN) (B := Bx) (g := HRR x n A B) (xRR x n c n A B v rd) ⟨trivial, by simp only [nI, decide_eq_false_iff_not]; omega⟩ (show 8 ≤ 12 by decide) (tm_dead (Vx_dead hv) lv_x) (hRR x n _ _) rfl (by kernel_rfl)
theorem xSS (x : Acts) (n c k : Nat) (A B : Sd) (v : VF) (rd : Option Nat) : goT (KT x hz.AB hz.DS hz.shaN) (st HSS x n c k A B v) rd [F] Bx (st HSS x n c k A B (Vx v)) [0, 1, 2, 3, 4, 5, 6, 7, 8, 9, 10, 11] = some (.exit 2, True ∧ decide (nI k < nI n) = false, seenAsT Bx (st HSS x n c k A B (Vx v)) [0, 1, 2, 3, 4, 5, 6, 7, 8, 9, 10, 11] 12) := by kernel_rfl
theorem sxSS {x : Acts} {n c : Nat} {A B : Sd} {v : VF} (rd : Option Nat) (hv : ∀ i, DeadV (v i)) : Step Try.prog rd (sE x n c) lb (st HSS x n c n A B v) (fun e t => e = .exit 2 ∧ t = st HSS x n c n A B (Vx v)) :=
  Step.stdT (s0 := sE x n c) sw.pg (KT_ok x hz.AB hz.DS hz.shaN) (B := Bx) (g := HSS x n A B) (xSS x n c n A B v rd) ⟨trivial, by simp only [nI, decide_eq_false_iff_not]; omega⟩ (show 8 ≤ 12 by decide) (tm_dead (Vx_dead hv) lv_x) (hSS x n _ _) rfl (by kernel_rfl)
def v0 : VF := fun i => match ((Nat.ble 3 i && Nat.ble i 4) || (Nat.ble 13 i && Nat.ble i 17) || (Nat.ble 20 i && Nat.ble i 34) || (Nat.ble 36 i && Nat.ble i 38)) with
  | true => junk
  | false => undef
theorem v0_dead (i : Nat) : DeadV (v0 i) := by
  unfold v0
  split
  · exact DeadV.junk
  · exact DeadV.undef
def nulS : Value := .slice none 0 0
def hN (x : Acts) (n : Nat) : Nat → Option Ob := HH x n z0 z0 nulS nulS none none
def sN (x : Acts) (n c : Nat) : St := ⟨tm v0 n c 0, [], Tr.rebuild (hN x n) 12, 12, 2, [], fun _ => false, True, []⟩
theorem seeE (x : Acts) (n c : Nat) : seenInT (fun _ => true) (sE x n c) (sN x n c) [0, 1, 2, 3, 4, 5, 6, 7, 3, 5, 10, 11] = seenAsT (fun _ => true) (sN x n c) [0, 1, 2, 3, 4, 5, 6, 7, 3, 5, 10, 11] 8 := by kernel_rfl
theorem viewE (x : Acts) (n c : Nat) : ViewM (sE x n c) (sE x n c) (sN x n c) (nm [0, 1, 2, 3, 4, 5, 6, 7, 3, 5, 10, 11]) :=
  ViewM.stdT (f := hN x n) (tm_dead v0_dead (fun _ _ => rfl)) (HH_ok (.inl rfl) (.inl rfl)) rfl (by kernel_rfl) (seeE x n c)
theorem startE {x : Acts} {n c : Nat} {rd : Option Nat} {Q : Exit → St → Prop} (h : Step Try.prog rd (sE x n c) lb (st HEE x n c 0 z0 z0 v0) Q) : Step Try.prog rd (sE x n c) lb (sE x n c) Q :=
  Step.viewM (viewE x n c) (Step.weak (wk_HH (.inr ⟨rfl, none, rfl⟩) (.inr ⟨rfl, none, rfl⟩)) h)
theorem good0 (x : Acts) (n c : Nat) : Good x n c 0 (st HEE x n c 0 z0 z0 v0) := by
  have h : Side z0 [] (600 * 0) := side0
  exact gEE v0_dead h h
theorem round {x : Acts} {n c k : Nat} {t : St} (h : At x n k) (g : Good x n c k t) : ∃ tz, Good x n c (k + 1) tz ∧ ∀ rd, Step Try.prog rd (sE x n c) lb t (fun e s => e = .normal ∧ s = tz) := by
  obtain ⟨A, B, M, N, v, hv, hA, hB, g⟩ := g
  rcases g with ⟨rfl, rfl, rfl⟩ | ⟨fA, rfl, rfl⟩ | ⟨rfl, fB, rfl⟩ | ⟨fA, fB, rfl⟩ | ⟨fA, rfl, rfl⟩
  · cases htw : x.tw (ix k) with
    | false =>
      by_cases hw0 : x.wh (ix k) = 0
      · by_cases h0 : x.m (ix k) = 0
        · exact qEEw00 (M := []) (N := []) h hv hA hB htw hw0 h0
        · exact qEEw10 (M := []) (N := []) h hv hA hB htw hw0 h0
      · by_cases hw1 : x.wh (ix k) = 1
        · exact qEEs0 (M := []) (N := []) h hv hA hB htw hw0 hw1
        · exact qEEc0 (M := []) (N := []) h hv hA hB htw hw0 hw1
    | true =>
      by_cases hw0 : x.wh (ix k) = 0
      · by_cases h0 : x.m (ix k) = 0
        · exact qEEw01 (M := []) (N := []) h hv hA hB htw hw0 h0
        · exact qEEw11 (M := []) (N := []) h hv hA hB htw hw0 h0
      · by_cases hw1 : x.wh (ix k) = 1
        · exact qEEs1 (M := []) (N := []) h hv hA hB htw hw0 hw1
        · exact qEEc1 (M := []) (N := []) h hv hA hB htw hw0 hw1
  · cases htw : x.tw (ix k) with
    | false =>
      by_cases hw0 : x.wh (ix k) = 0
      · by_cases h0 : x.m (ix k) = 0
        · exact qREw00 (N := []) h hv hA hB fA htw hw0 h0
        · exact qREw10 (N := []) h hv hA hB fA htw hw0 h0
      · by_cases hw1 : x.wh (ix k) = 1
        · exact qREs0 (N := []) h hv hA hB fA htw hw0 hw1
        · exact qREc0 (N := []) h hv hA hB fA htw hw0 hw1
    | true =>
      by_cases hw0 : x.wh (ix k) = 0
      · by_cases h0 : x.m (ix k) = 0
        · exact qREw01 (N := []) h hv hA hB fA htw hw0 h0
        · exact qREw11 (N := []) h hv hA hB fA htw hw0 h0
      · by_cases hw1 : x.wh (ix k) = 1
        · exact qREs1 (N := []) h hv hA hB fA htw hw0 hw1
        · exact qREc1 (N := []) h hv hA hB fA htw hw0 hw1
  · cases htw : x.tw (ix k) with
    | false =>
      by_cases hw0 : x.wh (ix k) = 0
      · by_cases h0 : x.m (ix k) = 0
        · exact qERw00 (M := []) h hv hA hB fB htw hw0 h0
        · exact qERw10 (M := []) h hv hA hB fB htw hw0 h0
      · by_cases hw1 : x.wh (ix k) = 1
        · exact qERs0 (M := []) h hv hA hB fB htw hw0 hw1
        · exact qERc0 (M := []) h hv hA hB fB htw hw0 hw1
    | true =>
      by_cases hw0 : x.wh (ix k) = 0
      · by_cases h0 : x.m (ix k) = 0
        · exact qERw01 (M := []) h hv hA hB fB htw hw0 h0
        · exact qERw11 (M := []) h hv hA hB fB htw hw0 h0
      · by_cases hw1 : x.wh (ix k) = 1
        · exact qERs1 (M := []) h hv hA hB fB htw hw0 hw1
        · exact qERc1 (M := []) h hv hA hB fB htw hw0 hw1
  · cases htw : x.tw (ix k) with
    | false =>
      by_cases hw0 : x.wh (ix k) = 0
      · by_cases h0 : x.m (ix k) = 0
        · exact qRRw00 h hv hA hB fA fB htw hw0 h0
        · exact qRRw10 h hv hA hB fA fB htw hw0 h0
      · by_cases hw1 : x.wh (ix k) = 1
        · exact qRRs0 h hv hA hB fA fB htw hw0 hw1
        · exact qRRc0 h hv hA hB fA fB htw hw0 hw1
    | true =>
      by_cases hw0 : x.wh (ix k) = 0
      · by_cases h0 : x.m (ix k) = 0
        · exact qRRw01 h hv hA hB fA fB htw hw0 h0
        · exact qRRw11 h hv hA hB fA fB htw hw0 h0
      · by_cases hw1 : x.wh (ix k) = 1
        · exact qRRs1 h hv hA hB fA fB htw hw0 hw1
        · exact qRRc1 h hv hA hB fA fB htw hw0 hw1
  · cases htw : x.tw (ix k) with
    | false =>
      by_cases hw0 : x.wh (ix k) = 0
      · by_cases h0 : x.m (ix k) = 0
        · exact qSSw00 (N := []) h hv hA hB fA htw hw0 h0
        · exact qSSw10 (N := []) h hv hA hB fA htw hw0 h0
      · by_cases hw1 : x.wh (ix k) = 1
        · exact qSSs0 (N := []) h hv hA hB fA htw hw0 hw1
        · exact qSSc0 (N := []) h hv hA hB fA htw hw0 hw1
    | true =>
      by_cases hw0 : x.wh (ix k) = 0
      · by_cases h0 : x.m (ix k) = 0
        · exact qSSw01 (N := []) h hv hA hB fA htw hw0 h0
        · exact qSSw11 (N := []) h hv hA hB fA htw hw0 h0
      · by_cases hw1 : x.wh (ix k) = 1
        · exact qSSs1 (N := []) h hv hA hB fA htw hw0 hw1
        · exact qSSc1 (N := []) h hv hA hB fA htw hw0 hw1
theorem exitX {x : Acts} {n c : Nat} {t : St} (g : Good x n c n t) : ∃ tz, Good x n c n tz ∧ ∀ rd, Step Try.prog rd (sE x n c) lb t (fun e s => e = .exit 2 ∧ s = tz) := by
  obtain ⟨A, B, M, N, v, hv, hA, hB, g⟩ := g
  rcases g with ⟨rfl, rfl, rfl⟩ | ⟨fA, rfl, rfl⟩ | ⟨rfl, fB, rfl⟩ | ⟨fA, fB, rfl⟩ | ⟨fA, rfl, rfl⟩
  · exact ⟨_, gEE (Vx_dead hv) hA hB, fun rd => sxEE rd hv⟩
  · exact ⟨_, gRE (Vx_dead hv) hA fA hB, fun rd => sxRE rd hv⟩
  · exact ⟨_, gER (Vx_dead hv) hA hB fB, fun rd => sxER rd hv⟩
  · exact ⟨_, gRR (Vx_dead hv) hA fA hB fB, fun rd => sxRR rd hv⟩
  · exact ⟨_, gSS (Vx_dead hv) hA fA hB, fun rd => sxSS rd hv⟩
theorem rounds {x : Acts} {n c : Nat} (K : Nat) (h : ∀ k, k < K → At x n k) : ∃ q : Nat → St, q 0 = st HEE x n c 0 z0 z0 v0 ∧ (∀ k, k ≤ K → Good x n c k (q k)) ∧ ∀ k, k < K → ∀ rd, Step Try.prog rd (sE x n c) lb (q k) (fun e s => e = .normal ∧ s = q (k + 1)) := by
  induction K with
  | zero => exact ⟨fun _ => st HEE x n c 0 z0 z0 v0, rfl, fun k hk => (by obtain rfl : k = 0 := (by omega); exact good0 x n c), fun k hk => (by omega)⟩
  | succ K ih =>
    obtain ⟨q, h0, h1, h2⟩ := ih fun k hk => h k (by omega)
    obtain ⟨tz, g1, g2⟩ := round (h K (by omega)) (h1 K (Nat.le_refl _))
    refine ⟨fun i => if i ≤ K then q i else tz, (by show (if 0 ≤ K then q 0 else tz) = _; rw [if_pos (Nat.zero_le _)]; exact h0), fun k hk => ?_, fun k hk rd => ?_⟩
    · by_cases e : k ≤ K
      · simp only [if_pos e]; exact h1 k e
      · obtain rfl : k = K + 1 := by omega
        simp only [if_neg e]; exact g1
    · by_cases e : k = K
      · subst e
        simp only [if_pos (Nat.le_refl k), if_neg (show ¬ k + 1 ≤ k by omega)]; exact g2 rd
      · simp only [if_pos (show k ≤ K by omega), if_pos (show k + 1 ≤ K by omega)]; exact h2 k (by omega) rd
theorem loopG {x : Acts} {n c : Nat} (K : Nat) (h : ∀ k, k < K → At x n k) (e : Exit) (hne : e ≠ .normal) (T : St → Prop) (hend : ∀ t, Good x n c K t → ∃ tz, T tz ∧ ∀ rd, Step Try.prog rd (sE x n c) lb t (fun e' s => e' = e ∧ s = tz)) :
    ∃ tz, T tz ∧ ∀ rd, CodeOk Try.prog rd (.loop lb) (sE x n c) e tz := by
  obtain ⟨q, h0, h1, h2⟩ := rounds (c := c) K h
  obtain ⟨tz, g1, g2⟩ := hend (q K) (h1 K (Nat.le_refl _))
  refine ⟨tz, g1, fun rd => CodeOk.of_step (Step.loop (fun g t => (g = K + 1 ∧ t = sE x n c) ∨ ∃ j, 1 ≤ j ∧ j ≤ K ∧ g = K - j ∧ t = q j) ?_ (K + 1) _ (.inl ⟨rfl, rfl⟩))⟩
  have key : ∀ j, j ≤ K → Step Try.prog rd (sE x n c) lb (q j) (fun e' s' => (e' = .normal ∧ ∃ j', j' = j + 1 ∧ j' ≤ K ∧ s' = q j') ∨ (e' ≠ .normal ∧ e' = e ∧ s' = tz)) := fun j hj => by
    by_cases hjK : j = K
    · subst hjK
      refine (g2 rd).mono ?_
      rintro e' s ⟨rfl, rfl⟩
      exact .inr ⟨hne, rfl, rfl⟩
    · refine (h2 j (by omega) rd).mono ?_
      rintro e' s ⟨rfl, rfl⟩
      exact .inl ⟨rfl, j + 1, rfl, by omega, rfl⟩
  rintro g t (⟨rfl, rfl⟩ | ⟨j, j1, j2, rfl, rfl⟩)
  · refine startE ?_
    rw [← h0]
    refine (key 0 (Nat.zero_le _)).mono ?_
    rintro e' s (⟨rfl, j', rfl, hj, rfl⟩ | ⟨a, rfl, rfl⟩)
    · exact .inl ⟨rfl, K - 1, by omega, .inr ⟨0 + 1, by omega, hj, by omega, rfl⟩⟩
    · exact .inr ⟨a, rfl, rfl⟩
  · refine (key j j2).mono ?_
    rintro e' s (⟨rfl, j', rfl, hj, rfl⟩ | ⟨a, rfl, rfl⟩)
    · exact .inl ⟨rfl, K - (j + 1), by omega, .inr ⟨j + 1, by omega, hj, rfl, rfl⟩⟩
    · exact .inr ⟨a, rfl, rfl⟩
theorem loopX {x : Acts} {n c : Nat} (ox : x.Ok n) (hn : n ≤ 30) (hm : ∀ i, i < n → x.m i ≤ 600) : ∃ tz, Good x n c n tz ∧ ∀ rd, CodeOk Try.prog rd (.loop lb) (sE x n c) (.exit 2) tz :=
  loopG n (fun k hk => At.of ox hk hn (hm k hk)) _ (by intro h; cases h) (Good x n c n) fun t g => exitX g
end
end sq
end Go.Proofs.Yteknepfcbpoooaa
