/- Read off the code by the clean reading. -/
import Derived.Test.YtgljibcokcgfbaaClnVc
set_option linter.unusedVariables false
set_option linter.unusedSimpArgs false
set_option linter.deprecated false
set_option maxRecDepth 100000
namespace Go.Proofs.Ytgljibcokcgfbaa
open Go.ChangeShapes Go.WideShapes Go.ChangeAt Go.RowKit Go.Cln
namespace hs
noncomputable section
structure At (x : Acts) (n k : Nat) : Prop where
 lt : k < n
 few : n <= 20
 short : x.wh (ix k) = 0 -> x.m (ix k) <= 200
 len : (rowx x k).length = x.m (ix k)
 byt : hx.Byt (rowx x k)
 mem : x.m (ix k) = 0 ∨ 0 + x.m (ix k) <= (x.D (x.Q (ix k))).length
theorem At.of {x : Acts} {n k : Nat} (h : x.Ok n) (hk : k < n) (hn : n <= 20) (hm : x.wh k = 0 -> x.m k <= 200) : At x n k := by
 have e : rowx x k = x.by k := by unfold rowx Acts.by; rw [ix_eq, List.drop_zero]
 have hl := h.len k hk
 refine ⟨hk, hn, by rw [ix_eq]; exact hm, by rw [e, ix_eq]; exact hl, by rw [e]; exact h.byte k hk, ?_⟩
 unfold Acts.by at hl
 rw [List.length_take] at hl
 rw [ix_eq]; omega
structure Full (A : Sd) (M : List Int) : Prop where
 a : A.a = M.length
 take : A.L.take A.a = M
 le : A.a <= A.L.length
 pos : 0 < A.a
theorem Full.m1 {A : Sd} {M : List Int} (h : Full A M) : m1 A = M := by unfold hs.m1; rw [List.drop_zero]; exact h.take
theorem Full.any {A : Sd} {M : List Int} (h : Full A M) (y0 : hz.HS) (y1 : Int) (y2 : List Int) (y3 : hq.KY) : Full ⟨y0, y1, y2, y3, A.L, A.a, A.q⟩ M := ⟨h.a, h.take, h.le, h.pos⟩
theorem wf_eq {x : Acts} {n k : Nat} (h : At x n k) : wf x k = rowx x k := by
 unfold wf; rw [List.drop_zero]; exact List.take_of_length_le (by rw [h.len]; omega)
theorem row_nil {x : Acts} {n k : Nat} (h : At x n k) (h0 : x.m (ix k) = 0) : rowx x k = [] := List.eq_nil_of_length_eq_zero (by rw [h.len]; exact h0)
theorem wz_eq {x : Acts} {n k : Nat} (h : At x n k) (h0 : x.m (ix k) = 0) : wz x k = rowx x k := by
 unfold wz; rw [h0, row_nil h h0]; rfl
theorem full_RF {x : Acts} {n k : Nat} {O : Sd} {M : List Int} {y0 : hz.HS} {y1 : Int} {y2 : List Int} {y3 : hq.KY} {q : Nat} (h : At x n k) (hO : Full O M) : Full ⟨y0, y1, y2, y3, List.take (0 + O.a) (List.drop 0 (m1 O)) ++ rowx x k, 0 + O.a + x.m (ix k), q⟩ (M ++ rowx x k) := by
 have hl := h.len
 have ha := hO.a
 have hp := hO.pos
 have e : List.take (0 + O.a) (List.drop 0 (m1 O)) = M := by rw [hO.m1, List.drop_zero]; exact List.take_of_length_le (by omega)
 refine ⟨?_, ?_, ?_, show 0 < 0 + O.a + x.m (ix k) by omega⟩
 ·show 0 + O.a + x.m (ix k) = _
  rw [List.length_append]; omega
 ·show (List.take (0 + O.a) (List.drop 0 (m1 O)) ++ rowx x k).take (0 + O.a + x.m (ix k)) = _
  rw [e]; exact List.take_of_length_le (by rw [List.length_append]; omega)
 ·show 0 + O.a + x.m (ix k) <= (List.take (0 + O.a) (List.drop 0 (m1 O)) ++ rowx x k).length
  rw [e, List.length_append]; omega
theorem full_RZ {x : Acts} {n k : Nat} {O : Sd} {M : List Int} {y0 : hz.HS} {y1 : Int} {y2 : List Int} {y3 : hq.KY} {q : Nat} (h : At x n k) (h0 : x.m (ix k) = 0) (hO : Full O M) : Full ⟨y0, y1, y2, y3, layI (m1 O) (0 + (0 + O.a)) (rowx x k), 0 + O.a + x.m (ix k), q⟩ (M ++ rowx x k) := by
 have ha := hO.a
 have hp := hO.pos
 have e : layI (m1 O) (0 + (0 + O.a)) (rowx x k) = M := by
  rw [row_nil h h0, hO.m1]
  unfold layI
  simp
 refine ⟨?_, ?_, ?_, show 0 < 0 + O.a + x.m (ix k) by omega⟩
 ·show 0 + O.a + x.m (ix k) = _
  rw [row_nil h h0, List.append_nil]; omega
 ·show (layI (m1 O) (0 + (0 + O.a)) (rowx x k)).take (0 + O.a + x.m (ix k)) = _
  rw [e, row_nil h h0, List.append_nil]; exact List.take_of_length_le (by omega)
 ·show 0 + O.a + x.m (ix k) <= (layI (m1 O) (0 + (0 + O.a)) (rowx x k)).length
  rw [e]; omega
theorem full_EF {x : Acts} {n k : Nat} {y0 : hz.HS} {y1 : Int} {y2 : List Int} {y3 : hq.KY} {q : Nat} (h : At x n k) (h0 : x.m (ix k) ≠ 0) : Full ⟨y0, y1, y2, y3, rowx x k, 0 + 0 + x.m (ix k), q⟩ ([] ++ rowx x k) := by
 have hl := h.len
 refine ⟨?_, ?_, ?_, show 0 < 0 + 0 + x.m (ix k) by omega⟩
 ·show 0 + 0 + x.m (ix k) = _
  rw [List.nil_append]; omega
 ·show (rowx x k).take (0 + 0 + x.m (ix k)) = _
  rw [List.nil_append]; exact List.take_of_length_le (by omega)
 ·show 0 + 0 + x.m (ix k) <= (rowx x k).length
  omega
theorem at70 (h : hz.HS) (z : Int) : intAt (hz.cH h z) 70 = z := by kernel_rfl
theorem at64 (h : hz.HS) (z : Int) : intAt (hz.cH h z) 64 = h.rn := by kernel_rfl
structure Side (x : Acts) (A : Sd) (M : List Int) (K : Nat) : Prop where
 sem : hz.SemH A.h (hd.xl A.w 54 ++ M)
 size : A.z = ((hd.xl A.w 54 ++ M).length : Int)
 byt : hx.Byt M
 len : M.length <= K
 key : A.w = ha.kb (hq.WK x A.y)
 kn : A.y.n = (hq.WK x A.y).length
 k5 : A.y.n <= 500
theorem Side.full {x : Acts} {A : Sd} {M : List Int} {K : Nat} (h : Side x A M K) : (hd.xl A.w 54 ++ M).length = 64 + M.length := by
 rw [List.length_append, hd.xl_len]
theorem Side.up {x : Acts} {A : Sd} {M : List Int} {K K' : Nat} (h : Side x A M K) (hK : K <= K') : Side x A M K' := ⟨h.sem, h.size, h.byt, Nat.le_trans h.len hK, h.key, h.kn, h.k5⟩
theorem Side.any {x : Acts} {A : Sd} {M : List Int} {K : Nat} (h : Side x A M K) (L : List Int) (a q : Nat) : Side x ⟨A.h, A.z, A.w, A.y, L, a, q⟩ M K := ⟨h.sem, h.size, h.byt, h.len, h.key, h.kn, h.k5⟩
theorem Side.bound {x : Acts} {A : Sd} {M : List Int} {K : Nat} (h : Side x A M K) (hK : K <= 100000) : 0 <= A.z /\ A.z <= 200000 := by
 have := h.len
 have := h.full
 rw [h.size]; omega
theorem byt_app {M L : List Int} (h : hx.Byt M) (g : hx.Byt L) : hx.Byt (M ++ L) := fun y hy => by
 rcases List.mem_append.1 hy with hy | hy
 ·exact h y hy
 ·exact g y hy
theorem Side.hs {x : Acts} {A : Sd} {M : List Int} {K : Nat} (h : Side x A M K) (hK : K <= 100000) : hd.Hs (hz.cH A.h A.z) (hd.xl A.w 54 ++ M) := by
 have h1 := h.len
 have h2 := h.full
 exact ⟨h.sem.cells A.z, by rw [at70]; exact h.size, by rw [at64]; exact h.sem.rn, by omega, byt_app (hd.xl_byt _ _) h.byt⟩
theorem rn64 {x : Acts} {A : Sd} {M : List Int} {K : Nat} (h : Side x A M K) : A.h.rn = (((hd.xl A.w 54 ++ M).length % 64 : Nat) : Int) := h.sem.rn
theorem a22 {x : Acts} {n k : Nat} {A : Sd} {M w : List Int} {K c : Nat} (h : At x n k) (hA : Side x A M K) (e : w = rowx x k) (hc : 0 + x.m (ix k) <= c) : ask22 hz.AB A w (0 + x.m (ix k)) c := by
 have hr := rn64 hA
 subst e
 unfold ask22
 rw [at64, hr]
 exact ⟨rfl, by omega, by omega, by rw [h.len]; omega, hc⟩
theorem aTT {x : Acts} {A : Sd} {M : List Int} {K : Nat} (hA : Side x A M K) (hK : K <= 100000) : askTT hq.TT0 A := ⟨rfl, _, hA.hs hK⟩
theorem aT0 {x : Acts} {A : Sd} {M : List Int} {K : Nat} (hA : Side x A M K) : askT0 hq.tgN x A := ⟨rfl, rfl, hA.kn, Nat.le_trans hA.k5 (by decide)⟩
theorem aT1 {x : Acts} {A O : Sd} {M N : List Int} {K : Nat} (hA : Side x A N K) (h : Full O M) (hl : M.length <= 9000) : askT1 hq.tgN x A (m1 O) O.a := by
 have hp := h.pos
 have ha := h.a
 exact ⟨rfl, rfl, hA.kn, Nat.le_trans hA.k5 (by decide), by rw [h.m1]; exact ha, hp, by omega⟩
theorem ch_iL (w : List Int) {j : Nat} (hj : j < 64) : hx.ch (hd.iL (rowV .u8 64 (hx.ch w))) j = hx.ch w j := by
 have h1 : (rowV .u8 64 (hx.ch w)).all (isKind .u8) = true := by
  rw [List.all_eq_true]
  intro v hv
  unfold rowV at hv
  rw [famList_eq] at hv
  obtain ⟨i, _, rfl⟩ := List.mem_map.1 hv
  rfl
 have h2 : (rowV .u8 64 (hx.ch w)).length = 64 := rowV_len _ _ _
 have h3 := congrArg (fun r => intAt r j) (hq.iL_row h1 h2)
 have h4 : intAt (rowV .u8 64 (hx.ch (hd.iL (rowV .u8 64 (hx.ch w))))) j = intAt (rowV .u8 64 (hx.ch w)) j := h3
 rwa [intAt_row hj, intAt_row hj] at h4
theorem xl_iL (w : List Int) (p : Int) : hd.xl (hd.iL (rowV .u8 64 (hx.ch w))) p = hd.xl w p := by
 unfold hd.xl
 refine List.map_congr_left fun j hj => ?_
 rw [ch_iL w (List.mem_range.1 hj)]
theorem tag_at {x : Acts} {A : Sd} {M : List Int} {K : Nat} (hA : Side x A M K) (hK : K <= 100000) : hq.TT0 (rowV .u8 64 (hx.ch A.w)) (hz.cH A.h A.z) = hq.tgN (hq.WK x A.y) M := by
 show hq.tagW hz.AB hz.DS (hz.cH A.h A.z) (hd.iL (rowV .u8 64 (hx.ch A.w))) = _
 rw [hq.tagW_eq (hA.hs hK), xl_iL, hA.key]
 rfl
theorem tag_of {x : Acts} {A O : Sd} {M : List Int} {K : Nat} (hA : Side x A M K) (hK : K <= 100000) (e : m1 O = M) : hq.TT0 (rowV .u8 64 (hx.ch A.w)) (hz.cH A.h A.z) = hq.tgN (hq.WK x A.y) (m1 O) := by rw [e]; exact tag_at hA hK
theorem tag_nil {x : Acts} {A : Sd} {K : Nat} (hA : Side x A [] K) (hK : K <= 100000) : hq.TT0 (rowV .u8 64 (hx.ch A.w)) (hz.cH A.h A.z) = hq.tgN (hq.WK x A.y) [] := tag_at hA hK
theorem side_put {x : Acts} {n k : Nat} {A : Sd} {M w L : List Int} {a q : Nat} {K : Nat} (h : At x n k) (hA : Side x A M K) (hK : K <= 100000) (hs : x.m (ix k) <= 200) (e : w = rowx x k) :
  Side x ⟨hz.AB w (hz.hOf (hz.cH A.h A.z)), IntKind.i64.wrap (intAt (hz.cH A.h A.z) 70 + ((0 + x.m (ix k) : Nat) : Int)), A.w, A.y, L, a, q⟩ (M ++ rowx x k) (K + 200) := by
 have hl := h.len
 have hM := hA.len
 have hf := hA.full
 subst e
 refine ⟨?_, ?_, byt_app hA.byt h.byt, by rw [List.length_append]; omega, hA.key, hA.kn, hA.k5⟩
 ·show hz.SemH _ (hd.xl A.w 54 ++ (M ++ rowx x k))
  rw [← List.append_assoc]
  exact (hA.sem.cells A.z).AB (byt_app (hd.xl_byt _ _) hA.byt) h.byt
 ·show IntKind.i64.wrap (intAt (hz.cH A.h A.z) 70 + ((0 + x.m (ix k) : Nat) : Int)) = ((hd.xl A.w 54 ++ (M ++ rowx x k)).length : Int)
  have e : (hd.xl A.w 54 ++ (M ++ rowx x k)).length = 64 + M.length + x.m (ix k) := by rw [← List.append_assoc, List.length_append, hl, hf]
  rw [at70, hA.size, e, hf, IntKind.wrap_i64]; omega
def Good (x : Acts) (n c k : Nat) (t : St) : Prop := ∃ (A B : Sd) (M N : List Int) (v : VF), (∀ i, DeadV (v i)) /\ Side x A M (200 * k) /\ Side x B N (200 * k) /\
 ((M = [] /\ N = [] /\ t = st HEE x n c k A B v) ∨ (Full A M /\ N = [] /\ t = st HRE x n c k A B v) ∨ (M = [] /\ Full B N /\ t = st HER x n c k A B v) ∨ (Full A M /\ Full B N /\ t = st HRR x n c k A B v) ∨ (Full A M /\ N = M /\ t = st HSS x n c k A B v))
theorem gEE {x : Acts} {n c k : Nat} {A B : Sd} {v : VF} (hv : ∀ i, DeadV (v i)) (hA : Side x A [] (200 * k)) (hB : Side x B [] (200 * k)) : Good x n c k (st HEE x n c k A B v) := ⟨A, B, _, _, v, hv, hA, hB, .inl ⟨rfl, rfl, rfl⟩⟩
theorem gRE {x : Acts} {n c k : Nat} {A B : Sd} {M : List Int} {v : VF} (hv : ∀ i, DeadV (v i)) (hA : Side x A M (200 * k)) (fA : Full A M) (hB : Side x B [] (200 * k)) : Good x n c k (st HRE x n c k A B v) := ⟨A, B, _, _, v, hv, hA, hB, .inr (.inl ⟨fA, rfl, rfl⟩)⟩
theorem gER {x : Acts} {n c k : Nat} {A B : Sd} {N : List Int} {v : VF} (hv : ∀ i, DeadV (v i)) (hA : Side x A [] (200 * k)) (hB : Side x B N (200 * k)) (fB : Full B N) : Good x n c k (st HER x n c k A B v) := ⟨A, B, _, _, v, hv, hA, hB, .inr (.inr (.inl ⟨rfl, fB, rfl⟩))⟩
theorem gRR {x : Acts} {n c k : Nat} {A B : Sd} {M N : List Int} {v : VF} (hv : ∀ i, DeadV (v i)) (hA : Side x A M (200 * k)) (fA : Full A M) (hB : Side x B N (200 * k)) (fB : Full B N) : Good x n c k (st HRR x n c k A B v) := ⟨A, B, _, _, v, hv, hA, hB, .inr (.inr (.inr (.inl ⟨fA, fB, rfl⟩)))⟩
theorem gSS {x : Acts} {n c k : Nat} {A B : Sd} {M : List Int} {v : VF} (hv : ∀ i, DeadV (v i)) (hA : Side x A M (200 * k)) (fA : Full A M) (hB : Side x B M (200 * k)) : Good x n c k (st HSS x n c k A B v) := ⟨A, B, _, _, v, hv, hA, hB, .inr (.inr (.inr (.inr ⟨fA, rfl, rfl⟩)))⟩
theorem w0t {x : Acts} {k : Nat} (h : x.wh (ix k) = 0) : (x.wh (ix k) == 0) = true := by rw [h]; rfl
theorem w0f {x : Acts} {k : Nat} (h : x.wh (ix k) ≠ 0) : (x.wh (ix k) == 0) = false := by simpa using h
theorem w1t {x : Acts} {k : Nat} (h : x.wh (ix k) = 1) : (x.wh (ix k) == 1) = true := by rw [h]; rfl
theorem w1f {x : Acts} {k : Nat} (h : x.wh (ix k) ≠ 1) : (x.wh (ix k) == 1) = false := by simpa using h
theorem fk_of {k : Nat} (h : k < 1000) : fk k := by unfold fk; simp only [nI]; rw [IntKind.wrap_i64]; omega
theorem wk_of {T : List Value} {f g : Nat -> Option Ob} (h : ∀ (b : Nat) (o2 : Ob), g b = some o2 -> ∃ o, f b = some o /\ (o = o2 ∨ ∃ (l l2 : List Value) (t : TypeId), o = .cells (.lit l) t /\ o2 = .cells (.lit l2) t /\ ∀ (i : Nat) (x : Value), l2[i]? = some x -> ∃ y, l[i]? = some y /\ (y = x ∨ x = E0 /\ ∃ a, y = .slice a 0 0)))
  (h01 : ∀ b, b < 2 -> g b = f b) : Wk ⟨T, [], Tr.rebuild f 113, 113, 2, [], fun _ => false, True, []⟩ ⟨T, [], Tr.rebuild g 113, 113, 2, [], fun _ => false, True, []⟩ where
 next := rfl
 roB := rfl
 ro := rfl
 hid := rfl
 defers := rfl
 tmps := rfl
 zero := ⟨(by decide : 0 < 113), rfl⟩
 heap b o2 hb := by
  obtain ⟨h1, h2⟩ := heap_at (by omega) hb
  obtain ⟨o, h3, h4⟩ := h b o2 h2
  refine ⟨o, ?_, h4⟩
  show (Tr.rebuild f 113).get b = some o
  rw [Tr.get_rebuild f 113 b (by omega), if_pos h1]; exact h3
 same b hm := by
  have hb : b < 2 := by
   rcases Nat.lt_or_ge b 2 with h | h
   ·exact h
   ·have : (decide (2 <= b) && !([] : List Nat).contains b) = false := hm
    simp at this; omega
  show (Tr.rebuild g 113).get b = (Tr.rebuild f 113).get b
  rw [Tr.get_rebuild f 113 b (by omega), Tr.get_rebuild g 113 b (by omega), if_pos (by omega), if_pos (by omega), h01 b hb]
theorem wk_HH {T : List Value} {x : Acts} {n : Nat} {A B : Sd} {u u2 w w2 : Value} {o8 o9 : Option Ob} (hu : u = u2 ∨ u2 = E0 /\ ∃ a, u = .slice a 0 0) (hw : w = w2 ∨ w2 = E0 /\ ∃ a, w = .slice a 0 0) :
  Wk ⟨T, [], Tr.rebuild (HH x n A B u w o8 o9) 113, 113, 2, [], fun _ => false, True, []⟩ ⟨T, [], Tr.rebuild (HH x n A B u2 w2 o8 o9) 113, 113, 2, [], fun _ => false, True, []⟩ := by
 refine wk_of (fun b o2 hb => ?_) (fun b hb => ?_)
 ·by_cases h5 : b = 106
  ·subst h5
   cases hb
   refine ⟨_, rfl, .inr ⟨_, _, _, rfl, rfl, fun i z hz => ?_⟩⟩
   match i, hz with
   | 0, hz => cases hz; exact ⟨u, rfl, hu⟩
   | 1, hz => cases hz; exact ⟨w, rfl, hw⟩
   | i + 2, hz => simp at hz
  ·refine ⟨o2, ?_, .inl rfl⟩
   rw [← hb]
   unfold HH
   split <;> first | rfl | (exfalso; exact h5 rfl)
 ·match b, hb with
  | 0, _ => rfl
  | 1, _ => rfl
  | b + 2, hb => omega
theorem zl0 (b : Nat) {z : Nat} (h : z = 0) : zl b z = E0 ∨ E0 = E0 /\ ∃ a, zl b z = .slice a 0 0 := .inr ⟨rfl, _, by rw [h]; rfl⟩
theorem qEEs0 {tE : List Value} {gE : Nat -> Option Ob} {x : Acts} {n c k : Nat} {A B : Sd} {M N : List Int} {v : VF} (h : At x n k) (hv : ∀ i, DeadV (v i)) (hA : Side x A [] (200 * k)) (hB : Side x B [] (200 * k)) (htw : x.tw (ix k) = false) (hw0 : x.wh (ix k) ≠ 0) (hw1 : x.wh (ix k) = 1) :
  ∃ tz, Good x n c (k + 1) tz /\ ∀ rd, Step Try.prog rd (sE tE gE) lb (st HEE x n c k A B v) (fun e t => e = .normal /\ t = tz) := by
 have hlt := h.lt
 have hfw := h.few
 have hl := h.len
 have hmq := h.mem
 have bA := hA.bound (by omega)
 have bB := hB.bound (by omega)
 exact ⟨_, gEE (Vs_dead hv) (hA.up (by omega)) (hB.up (by omega)), fun rd => sEEs0 (KF := ha.kb) (Aw := hz.AB) (TT := hq.TT0) (TG := hq.tgN) rd hv (by refine ⟨(e20 ⟨⟨⟨⟨⟨⟨⟨⟨trivial, ?_⟩, ?_⟩, ?_⟩, htw⟩, (w0f hw0)⟩, (w1t hw1)⟩, (aTT hA (by omega))⟩, (aT0 hA)⟩ (tag_nil hA (by omega))), (fk_of (by omega))⟩ <;> first | omega | simp [nI, mostBytes] <;> omega)⟩
theorem qEEs1 {tE : List Value} {gE : Nat -> Option Ob} {x : Acts} {n c k : Nat} {A B : Sd} {M N : List Int} {v : VF} (h : At x n k) (hv : ∀ i, DeadV (v i)) (hA : Side x A [] (200 * k)) (hB : Side x B [] (200 * k)) (htw : x.tw (ix k) = true) (hw0 : x.wh (ix k) ≠ 0) (hw1 : x.wh (ix k) = 1) :
  ∃ tz, Good x n c (k + 1) tz /\ ∀ rd, Step Try.prog rd (sE tE gE) lb (st HEE x n c k A B v) (fun e t => e = .normal /\ t = tz) := by
 have hlt := h.lt
 have hfw := h.few
 have hl := h.len
 have hmq := h.mem
 have bA := hA.bound (by omega)
 have bB := hB.bound (by omega)
 exact ⟨_, gEE (Vs_dead hv) (hA.up (by omega)) (hB.up (by omega)), fun rd => sEEs1 (KF := ha.kb) (Aw := hz.AB) (TT := hq.TT0) (TG := hq.tgN) rd hv (by refine ⟨(e20 ⟨⟨⟨⟨⟨⟨⟨⟨trivial, ?_⟩, ?_⟩, ?_⟩, htw⟩, (w0f hw0)⟩, (w1t hw1)⟩, (aTT hB (by omega))⟩, (aT0 hB)⟩ (tag_nil hB (by omega))), (fk_of (by omega))⟩ <;> first | omega | simp [nI, mostBytes] <;> omega)⟩
theorem qEEc0 {tE : List Value} {gE : Nat -> Option Ob} {x : Acts} {n c k : Nat} {A B : Sd} {M N : List Int} {v : VF} (h : At x n k) (hv : ∀ i, DeadV (v i)) (hA : Side x A [] (200 * k)) (hB : Side x B [] (200 * k)) (htw : x.tw (ix k) = false) (hw0 : x.wh (ix k) ≠ 0) (hw1 : x.wh (ix k) ≠ 1) :
  ∃ tz, Good x n c (k + 1) tz /\ ∀ rd, Step Try.prog rd (sE tE gE) lb (st HEE x n c k A B v) (fun e t => e = .normal /\ t = tz) := by
 have hlt := h.lt
 have hfw := h.few
 have hl := h.len
 have hmq := h.mem
 have bA := hA.bound (by omega)
 have bB := hB.bound (by omega)
 exact ⟨_, gEE (Vc_dead hv) (Side.any (hB.up (by omega)) _ _ _) (hB.up (by omega)), fun rd => sEEc0 (KF := ha.kb) (Aw := hz.AB) (TT := hq.TT0) (TG := hq.tgN) rd hv (by refine ⟨⟨⟨⟨⟨⟨⟨trivial, ?_⟩, ?_⟩, ?_⟩, htw⟩, (w0f hw0)⟩, (w1f hw1)⟩, (fk_of (by omega))⟩ <;> first | omega | simp [nI, mostBytes] <;> omega)⟩
theorem qEEc1 {tE : List Value} {gE : Nat -> Option Ob} {x : Acts} {n c k : Nat} {A B : Sd} {M N : List Int} {v : VF} (h : At x n k) (hv : ∀ i, DeadV (v i)) (hA : Side x A [] (200 * k)) (hB : Side x B [] (200 * k)) (htw : x.tw (ix k) = true) (hw0 : x.wh (ix k) ≠ 0) (hw1 : x.wh (ix k) ≠ 1) :
  ∃ tz, Good x n c (k + 1) tz /\ ∀ rd, Step Try.prog rd (sE tE gE) lb (st HEE x n c k A B v) (fun e t => e = .normal /\ t = tz) := by
 have hlt := h.lt
 have hfw := h.few
 have hl := h.len
 have hmq := h.mem
 have bA := hA.bound (by omega)
 have bB := hB.bound (by omega)
 exact ⟨_, gEE (Vc_dead hv) (hA.up (by omega)) (Side.any (hA.up (by omega)) _ _ _), fun rd => sEEc1 (KF := ha.kb) (Aw := hz.AB) (TT := hq.TT0) (TG := hq.tgN) rd hv (by refine ⟨⟨⟨⟨⟨⟨⟨trivial, ?_⟩, ?_⟩, ?_⟩, htw⟩, (w0f hw0)⟩, (w1f hw1)⟩, (fk_of (by omega))⟩ <;> first | omega | simp [nI, mostBytes] <;> omega)⟩
theorem qEEw10 {tE : List Value} {gE : Nat -> Option Ob} {x : Acts} {n c k : Nat} {A B : Sd} {M N : List Int} {v : VF} (h : At x n k) (hv : ∀ i, DeadV (v i)) (hA : Side x A [] (200 * k)) (hB : Side x B [] (200 * k)) (htw : x.tw (ix k) = false) (hw0 : x.wh (ix k) = 0) (h0 : x.m (ix k) ≠ 0) :
  ∃ tz, Good x n c (k + 1) tz /\ ∀ rd, Step Try.prog rd (sE tE gE) lb (st HEE x n c k A B v) (fun e t => e = .normal /\ t = tz) := by
 have hlt := h.lt
 have hfw := h.few
 have hs := h.short hw0
 have hl := h.len
 have hmq := h.mem
 have bA := hA.bound (by omega)
 have bB := hB.bound (by omega)
 exact ⟨_, gRE (Vw1_dead hv) (side_put (K := 200 * k) h hA (by omega) hs (wf_eq h)) (full_EF h h0) (hB.up (by omega)), fun rd => sEEw10 (KF := ha.kb) (Aw := hz.AB) (TT := hq.TT0) (TG := hq.tgN) rd hv (by refine ⟨⟨⟨⟨⟨⟨⟨⟨⟨⟨⟨⟨⟨⟨trivial, ?_⟩, ?_⟩, ?_⟩, htw⟩, (w0t hw0)⟩, ?_⟩, ?_⟩, ⟨hmq, ?_⟩⟩, (a22 h hA (wf_eq h) (by omega))⟩, (fun rd => loopJ hEE jnEE jxEE joEE x n c k _ _ (Vpre v) 0 (rowx x k) (x.m (ix k)) rfl (by omega) (by omega) hl (Vpre_dead hv) rd)⟩, ⟨.inl rfl, Nat.le_refl _⟩⟩, ?_⟩, ⟨hmq, ?_⟩⟩, (fk_of (by omega))⟩ <;> first | omega | simp [nI, mostBytes] <;> omega)⟩
theorem qEEw11 {tE : List Value} {gE : Nat -> Option Ob} {x : Acts} {n c k : Nat} {A B : Sd} {M N : List Int} {v : VF} (h : At x n k) (hv : ∀ i, DeadV (v i)) (hA : Side x A [] (200 * k)) (hB : Side x B [] (200 * k)) (htw : x.tw (ix k) = true) (hw0 : x.wh (ix k) = 0) (h0 : x.m (ix k) ≠ 0) :
  ∃ tz, Good x n c (k + 1) tz /\ ∀ rd, Step Try.prog rd (sE tE gE) lb (st HEE x n c k A B v) (fun e t => e = .normal /\ t = tz) := by
 have hlt := h.lt
 have hfw := h.few
 have hs := h.short hw0
 have hl := h.len
 have hmq := h.mem
 have bA := hA.bound (by omega)
 have bB := hB.bound (by omega)
 exact ⟨_, gER (Vw1_dead hv) (hA.up (by omega)) (side_put (K := 200 * k) h hB (by omega) hs (wf_eq h)) (full_EF h h0), fun rd => sEEw11 (KF := ha.kb) (Aw := hz.AB) (TT := hq.TT0) (TG := hq.tgN) rd hv (by refine ⟨⟨⟨⟨⟨⟨⟨⟨⟨⟨⟨⟨⟨⟨trivial, ?_⟩, ?_⟩, ?_⟩, htw⟩, (w0t hw0)⟩, ?_⟩, ?_⟩, ⟨hmq, ?_⟩⟩, (a22 h hB (wf_eq h) (by omega))⟩, (fun rd => loopJ hEE jnEE jxEE joEE x n c k _ _ (Vpre v) 1 (rowx x k) (x.m (ix k)) rfl (by omega) (by omega) hl (Vpre_dead hv) rd)⟩, ⟨.inl rfl, Nat.le_refl _⟩⟩, ?_⟩, ⟨hmq, ?_⟩⟩, (fk_of (by omega))⟩ <;> first | omega | simp [nI, mostBytes] <;> omega)⟩
theorem qEEw00 {tE : List Value} {gE : Nat -> Option Ob} {x : Acts} {n c k : Nat} {A B : Sd} {M N : List Int} {v : VF} (h : At x n k) (hv : ∀ i, DeadV (v i)) (hA : Side x A [] (200 * k)) (hB : Side x B [] (200 * k)) (htw : x.tw (ix k) = false) (hw0 : x.wh (ix k) = 0) (h0 : x.m (ix k) = 0) :
  ∃ tz, Good x n c (k + 1) tz /\ ∀ rd, Step Try.prog rd (sE tE gE) lb (st HEE x n c k A B v) (fun e t => e = .normal /\ t = tz) := by
 have hlt := h.lt
 have hfw := h.few
 have hs := h.short hw0
 have hl := h.len
 have hmq := h.mem
 have bA := hA.bound (by omega)
 have bB := hB.bound (by omega)
 exact ⟨_, gEE (Vw0_dead hv) (by have := side_put (K := 200 * k) (L := A.L) (a := A.a) (q := A.q) h hA (by omega) hs (wz_eq h h0); rw [row_nil h h0, List.append_nil] at this; exact this) (hB.up (by omega)), fun rd => Step.weaken (t2 := st HEE x n c (k + 1) (⟨hz.AB (wz x k) (hz.hOf (hz.cH A.h A.z)), IntKind.i64.wrap (intAt (hz.cH A.h A.z) 70 + ((0 + x.m (ix k) : Nat) : Int)), A.w, A.y, A.L, A.a, A.q⟩) B (Vw0 v)) (wk_HH (zl0 111 (by omega)) (.inl rfl)) (sEEw00 (KF := ha.kb) (Aw := hz.AB) (TT := hq.TT0) (TG := hq.tgN) rd hv (by refine ⟨⟨⟨⟨⟨⟨⟨⟨⟨⟨⟨⟨⟨⟨trivial, ?_⟩, ?_⟩, ?_⟩, htw⟩, (w0t hw0)⟩, ?_⟩, ?_⟩, ⟨hmq, ?_⟩⟩, (a22 h hA (wz_eq h h0) (by omega))⟩, ?_⟩, ⟨.inl rfl, Nat.le_refl _⟩⟩, ?_⟩, ⟨hmq, ?_⟩⟩, (fk_of (by omega))⟩ <;> first | omega | simp [nI, mostBytes] <;> omega))⟩
theorem qEEw01 {tE : List Value} {gE : Nat -> Option Ob} {x : Acts} {n c k : Nat} {A B : Sd} {M N : List Int} {v : VF} (h : At x n k) (hv : ∀ i, DeadV (v i)) (hA : Side x A [] (200 * k)) (hB : Side x B [] (200 * k)) (htw : x.tw (ix k) = true) (hw0 : x.wh (ix k) = 0) (h0 : x.m (ix k) = 0) :
  ∃ tz, Good x n c (k + 1) tz /\ ∀ rd, Step Try.prog rd (sE tE gE) lb (st HEE x n c k A B v) (fun e t => e = .normal /\ t = tz) := by
 have hlt := h.lt
 have hfw := h.few
 have hs := h.short hw0
 have hl := h.len
 have hmq := h.mem
 have bA := hA.bound (by omega)
 have bB := hB.bound (by omega)
 exact ⟨_, gEE (Vw0_dead hv) (hA.up (by omega)) (by have := side_put (K := 200 * k) (L := B.L) (a := B.a) (q := B.q) h hB (by omega) hs (wz_eq h h0); rw [row_nil h h0, List.append_nil] at this; exact this), fun rd => Step.weaken (t2 := st HEE x n c (k + 1) A (⟨hz.AB (wz x k) (hz.hOf (hz.cH B.h B.z)), IntKind.i64.wrap (intAt (hz.cH B.h B.z) 70 + ((0 + x.m (ix k) : Nat) : Int)), B.w, B.y, B.L, B.a, B.q⟩) (Vw0 v)) (wk_HH (.inl rfl) (zl0 112 (by omega))) (sEEw01 (KF := ha.kb) (Aw := hz.AB) (TT := hq.TT0) (TG := hq.tgN) rd hv (by refine ⟨⟨⟨⟨⟨⟨⟨⟨⟨⟨⟨⟨⟨⟨trivial, ?_⟩, ?_⟩, ?_⟩, htw⟩, (w0t hw0)⟩, ?_⟩, ?_⟩, ⟨hmq, ?_⟩⟩, (a22 h hB (wz_eq h h0) (by omega))⟩, ?_⟩, ⟨.inl rfl, Nat.le_refl _⟩⟩, ?_⟩, ⟨hmq, ?_⟩⟩, (fk_of (by omega))⟩ <;> first | omega | simp [nI, mostBytes] <;> omega))⟩
theorem qERs0 {tE : List Value} {gE : Nat -> Option Ob} {x : Acts} {n c k : Nat} {A B : Sd} {M N : List Int} {v : VF} (h : At x n k) (hv : ∀ i, DeadV (v i)) (hA : Side x A [] (200 * k)) (hB : Side x B N (200 * k)) (fB : Full B N) (htw : x.tw (ix k) = false) (hw0 : x.wh (ix k) ≠ 0) (hw1 : x.wh (ix k) = 1) :
  ∃ tz, Good x n c (k + 1) tz /\ ∀ rd, Step Try.prog rd (sE tE gE) lb (st HER x n c k A B v) (fun e t => e = .normal /\ t = tz) := by
 have hlt := h.lt
 have hfw := h.few
 have hl := h.len
 have hmq := h.mem
 have bA := hA.bound (by omega)
 have bB := hB.bound (by omega)
 have fb1 := fB.a
 have fb2 := fB.pos
 have fb3 := fB.le
 have fb4 := congrArg List.length fB.m1
 have fb5 := hB.len
 exact ⟨_, gER (Vs_dead hv) (hA.up (by omega)) (hB.up (by omega)) fB, fun rd => sERs0 (KF := ha.kb) (Aw := hz.AB) (TT := hq.TT0) (TG := hq.tgN) rd hv (by refine ⟨(e20 ⟨⟨⟨⟨⟨⟨⟨⟨trivial, ?_⟩, ?_⟩, ?_⟩, htw⟩, (w0f hw0)⟩, (w1t hw1)⟩, (aTT hA (by omega))⟩, (aT0 hA)⟩ (tag_nil hA (by omega))), (fk_of (by omega))⟩ <;> first | omega | simp [nI, mostBytes] <;> omega)⟩
theorem qERs1 {tE : List Value} {gE : Nat -> Option Ob} {x : Acts} {n c k : Nat} {A B : Sd} {M N : List Int} {v : VF} (h : At x n k) (hv : ∀ i, DeadV (v i)) (hA : Side x A [] (200 * k)) (hB : Side x B N (200 * k)) (fB : Full B N) (htw : x.tw (ix k) = true) (hw0 : x.wh (ix k) ≠ 0) (hw1 : x.wh (ix k) = 1) :
  ∃ tz, Good x n c (k + 1) tz /\ ∀ rd, Step Try.prog rd (sE tE gE) lb (st HER x n c k A B v) (fun e t => e = .normal /\ t = tz) := by
 have hlt := h.lt
 have hfw := h.few
 have hl := h.len
 have hmq := h.mem
 have bA := hA.bound (by omega)
 have bB := hB.bound (by omega)
 have fb1 := fB.a
 have fb2 := fB.pos
 have fb3 := fB.le
 have fb4 := congrArg List.length fB.m1
 have fb5 := hB.len
 exact ⟨_, gER (Vs_dead hv) (hA.up (by omega)) (hB.up (by omega)) fB, fun rd => sERs1 (KF := ha.kb) (Aw := hz.AB) (TT := hq.TT0) (TG := hq.tgN) rd hv (by refine ⟨(e20 ⟨⟨⟨⟨⟨⟨⟨⟨trivial, ?_⟩, ?_⟩, ?_⟩, htw⟩, (w0f hw0)⟩, (w1t hw1)⟩, (aTT hB (by omega))⟩, (aT1 hB fB (by have := hB.len; omega))⟩ (tag_of hB (by omega) fB.m1)), (fk_of (by omega))⟩ <;> first | omega | simp [nI, mostBytes] <;> omega)⟩
theorem qERc0 {tE : List Value} {gE : Nat -> Option Ob} {x : Acts} {n c k : Nat} {A B : Sd} {M N : List Int} {v : VF} (h : At x n k) (hv : ∀ i, DeadV (v i)) (hA : Side x A [] (200 * k)) (hB : Side x B N (200 * k)) (fB : Full B N) (htw : x.tw (ix k) = false) (hw0 : x.wh (ix k) ≠ 0) (hw1 : x.wh (ix k) ≠ 1) :
  ∃ tz, Good x n c (k + 1) tz /\ ∀ rd, Step Try.prog rd (sE tE gE) lb (st HER x n c k A B v) (fun e t => e = .normal /\ t = tz) := by
 have hlt := h.lt
 have hfw := h.few
 have hl := h.len
 have hmq := h.mem
 have bA := hA.bound (by omega)
 have bB := hB.bound (by omega)
 have fb1 := fB.a
 have fb2 := fB.pos
 have fb3 := fB.le
 have fb4 := congrArg List.length fB.m1
 have fb5 := hB.len
 exact ⟨_, gSS (Vc_dead hv) (Side.any (hB.up (by omega)) _ _ _) (Full.any fB _ _ _ _) (Side.any (hB.up (by omega)) _ _ _), fun rd => sERc0 (KF := ha.kb) (Aw := hz.AB) (TT := hq.TT0) (TG := hq.tgN) rd hv (by refine ⟨⟨⟨⟨⟨⟨⟨trivial, ?_⟩, ?_⟩, ?_⟩, htw⟩, (w0f hw0)⟩, (w1f hw1)⟩, (fk_of (by omega))⟩ <;> first | omega | simp [nI, mostBytes] <;> omega)⟩
theorem qERc1 {tE : List Value} {gE : Nat -> Option Ob} {x : Acts} {n c k : Nat} {A B : Sd} {M N : List Int} {v : VF} (h : At x n k) (hv : ∀ i, DeadV (v i)) (hA : Side x A [] (200 * k)) (hB : Side x B N (200 * k)) (fB : Full B N) (htw : x.tw (ix k) = true) (hw0 : x.wh (ix k) ≠ 0) (hw1 : x.wh (ix k) ≠ 1) :
  ∃ tz, Good x n c (k + 1) tz /\ ∀ rd, Step Try.prog rd (sE tE gE) lb (st HER x n c k A B v) (fun e t => e = .normal /\ t = tz) := by
 have hlt := h.lt
 have hfw := h.few
 have hl := h.len
 have hmq := h.mem
 have bA := hA.bound (by omega)
 have bB := hB.bound (by omega)
 have fb1 := fB.a
 have fb2 := fB.pos
 have fb3 := fB.le
 have fb4 := congrArg List.length fB.m1
 have fb5 := hB.len
 exact ⟨_, gEE (Vc_dead hv) (hA.up (by omega)) (Side.any (hA.up (by omega)) _ _ _), fun rd => sERc1 (KF := ha.kb) (Aw := hz.AB) (TT := hq.TT0) (TG := hq.tgN) rd hv (by refine ⟨⟨⟨⟨⟨⟨⟨trivial, ?_⟩, ?_⟩, ?_⟩, htw⟩, (w0f hw0)⟩, (w1f hw1)⟩, (fk_of (by omega))⟩ <;> first | omega | simp [nI, mostBytes] <;> omega)⟩
theorem qERw10 {tE : List Value} {gE : Nat -> Option Ob} {x : Acts} {n c k : Nat} {A B : Sd} {M N : List Int} {v : VF} (h : At x n k) (hv : ∀ i, DeadV (v i)) (hA : Side x A [] (200 * k)) (hB : Side x B N (200 * k)) (fB : Full B N) (htw : x.tw (ix k) = false) (hw0 : x.wh (ix k) = 0) (h0 : x.m (ix k) ≠ 0) :
  ∃ tz, Good x n c (k + 1) tz /\ ∀ rd, Step Try.prog rd (sE tE gE) lb (st HER x n c k A B v) (fun e t => e = .normal /\ t = tz) := by
 have hlt := h.lt
 have hfw := h.few
 have hs := h.short hw0
 have hl := h.len
 have hmq := h.mem
 have bA := hA.bound (by omega)
 have bB := hB.bound (by omega)
 have fb1 := fB.a
 have fb2 := fB.pos
 have fb3 := fB.le
 have fb4 := congrArg List.length fB.m1
 have fb5 := hB.len
 exact ⟨_, gRR (Vw1_dead hv) (side_put (K := 200 * k) h hA (by omega) hs (wf_eq h)) (full_EF h h0) (hB.up (by omega)) fB, fun rd => sERw10 (KF := ha.kb) (Aw := hz.AB) (TT := hq.TT0) (TG := hq.tgN) rd hv (by refine ⟨⟨⟨⟨⟨⟨⟨⟨⟨⟨⟨⟨⟨⟨trivial, ?_⟩, ?_⟩, ?_⟩, htw⟩, (w0t hw0)⟩, ?_⟩, ?_⟩, ⟨hmq, ?_⟩⟩, (a22 h hA (wf_eq h) (by omega))⟩, (fun rd => loopJ hER jnER jxER joER x n c k _ _ (Vpre v) 0 (rowx x k) (x.m (ix k)) rfl (by omega) (by omega) hl (Vpre_dead hv) rd)⟩, ⟨.inl rfl, Nat.le_refl _⟩⟩, ?_⟩, ⟨hmq, ?_⟩⟩, (fk_of (by omega))⟩ <;> first | omega | simp [nI, mostBytes] <;> omega)⟩
theorem qERw11 {tE : List Value} {gE : Nat -> Option Ob} {x : Acts} {n c k : Nat} {A B : Sd} {M N : List Int} {v : VF} (h : At x n k) (hv : ∀ i, DeadV (v i)) (hA : Side x A [] (200 * k)) (hB : Side x B N (200 * k)) (fB : Full B N) (htw : x.tw (ix k) = true) (hw0 : x.wh (ix k) = 0) (h0 : x.m (ix k) ≠ 0) :
  ∃ tz, Good x n c (k + 1) tz /\ ∀ rd, Step Try.prog rd (sE tE gE) lb (st HER x n c k A B v) (fun e t => e = .normal /\ t = tz) := by
 have hlt := h.lt
 have hfw := h.few
 have hs := h.short hw0
 have hl := h.len
 have hmq := h.mem
 have bA := hA.bound (by omega)
 have bB := hB.bound (by omega)
 have fb1 := fB.a
 have fb2 := fB.pos
 have fb3 := fB.le
 have fb4 := congrArg List.length fB.m1
 have fb5 := hB.len
 exact ⟨_, gER (Vw1_dead hv) (hA.up (by omega)) (side_put (K := 200 * k) h hB (by omega) hs (wf_eq h)) (full_RF h fB), fun rd => sERw11 (KF := ha.kb) (Aw := hz.AB) (TT := hq.TT0) (TG := hq.tgN) rd hv (by refine ⟨⟨⟨⟨⟨⟨⟨⟨⟨⟨⟨⟨⟨⟨⟨trivial, ?_⟩, ?_⟩, ?_⟩, htw⟩, (w0t hw0)⟩, ?_⟩, ?_⟩, ⟨hmq, ?_⟩⟩, (a22 h hB (wf_eq h) (by omega))⟩, (fun rd => loopJ hER jnER jxER joER x n c k _ _ (Vpre v) 1 (rowx x k) (x.m (ix k)) rfl (by omega) (by omega) hl (Vpre_dead hv) rd)⟩, ?_⟩, ?_⟩, ?_⟩, ⟨hmq, ?_⟩⟩, (fk_of (by omega))⟩ <;> first | omega | simp [nI, mostBytes] <;> omega)⟩
theorem qERw00 {tE : List Value} {gE : Nat -> Option Ob} {x : Acts} {n c k : Nat} {A B : Sd} {M N : List Int} {v : VF} (h : At x n k) (hv : ∀ i, DeadV (v i)) (hA : Side x A [] (200 * k)) (hB : Side x B N (200 * k)) (fB : Full B N) (htw : x.tw (ix k) = false) (hw0 : x.wh (ix k) = 0) (h0 : x.m (ix k) = 0) :
  ∃ tz, Good x n c (k + 1) tz /\ ∀ rd, Step Try.prog rd (sE tE gE) lb (st HER x n c k A B v) (fun e t => e = .normal /\ t = tz) := by
 have hlt := h.lt
 have hfw := h.few
 have hs := h.short hw0
 have hl := h.len
 have hmq := h.mem
 have bA := hA.bound (by omega)
 have bB := hB.bound (by omega)
 have fb1 := fB.a
 have fb2 := fB.pos
 have fb3 := fB.le
 have fb4 := congrArg List.length fB.m1
 have fb5 := hB.len
 exact ⟨_, gER (Vw0_dead hv) (by have := side_put (K := 200 * k) (L := A.L) (a := A.a) (q := A.q) h hA (by omega) hs (wz_eq h h0); rw [row_nil h h0, List.append_nil] at this; exact this) (hB.up (by omega)) fB, fun rd => Step.weaken (t2 := st HER x n c (k + 1) (⟨hz.AB (wz x k) (hz.hOf (hz.cH A.h A.z)), IntKind.i64.wrap (intAt (hz.cH A.h A.z) 70 + ((0 + x.m (ix k) : Nat) : Int)), A.w, A.y, A.L, A.a, A.q⟩) B (Vw0 v)) (wk_HH (zl0 111 (by omega)) (.inl rfl)) (sERw00 (KF := ha.kb) (Aw := hz.AB) (TT := hq.TT0) (TG := hq.tgN) rd hv (by refine ⟨⟨⟨⟨⟨⟨⟨⟨⟨⟨⟨⟨⟨⟨trivial, ?_⟩, ?_⟩, ?_⟩, htw⟩, (w0t hw0)⟩, ?_⟩, ?_⟩, ⟨hmq, ?_⟩⟩, (a22 h hA (wz_eq h h0) (by omega))⟩, ?_⟩, ⟨.inl rfl, Nat.le_refl _⟩⟩, ?_⟩, ⟨hmq, ?_⟩⟩, (fk_of (by omega))⟩ <;> first | omega | simp [nI, mostBytes] <;> omega))⟩
theorem qERw01 {tE : List Value} {gE : Nat -> Option Ob} {x : Acts} {n c k : Nat} {A B : Sd} {M N : List Int} {v : VF} (h : At x n k) (hv : ∀ i, DeadV (v i)) (hA : Side x A [] (200 * k)) (hB : Side x B N (200 * k)) (fB : Full B N) (htw : x.tw (ix k) = true) (hw0 : x.wh (ix k) = 0) (h0 : x.m (ix k) = 0) :
  ∃ tz, Good x n c (k + 1) tz /\ ∀ rd, Step Try.prog rd (sE tE gE) lb (st HER x n c k A B v) (fun e t => e = .normal /\ t = tz) := by
 have hlt := h.lt
 have hfw := h.few
 have hs := h.short hw0
 have hl := h.len
 have hmq := h.mem
 have bA := hA.bound (by omega)
 have bB := hB.bound (by omega)
 have fb1 := fB.a
 have fb2 := fB.pos
 have fb3 := fB.le
 have fb4 := congrArg List.length fB.m1
 have fb5 := hB.len
 exact ⟨_, gER (Vw0_dead hv) (hA.up (by omega)) (side_put (K := 200 * k) h hB (by omega) hs (wz_eq h h0)) (full_RZ h h0 fB), fun rd => sERw01 (KF := ha.kb) (Aw := hz.AB) (TT := hq.TT0) (TG := hq.tgN) rd hv (by refine ⟨⟨⟨⟨⟨⟨⟨⟨⟨⟨⟨⟨⟨⟨⟨trivial, ?_⟩, ?_⟩, ?_⟩, htw⟩, (w0t hw0)⟩, ?_⟩, ?_⟩, ⟨hmq, ?_⟩⟩, (a22 h hB (wz_eq h h0) (by omega))⟩, ?_⟩, ?_⟩, ?_⟩, ?_⟩, ⟨hmq, ?_⟩⟩, (fk_of (by omega))⟩ <;> first | omega | simp [nI, mostBytes] <;> omega)⟩
theorem qREs0 {tE : List Value} {gE : Nat -> Option Ob} {x : Acts} {n c k : Nat} {A B : Sd} {M N : List Int} {v : VF} (h : At x n k) (hv : ∀ i, DeadV (v i)) (hA : Side x A M (200 * k)) (hB : Side x B [] (200 * k)) (fA : Full A M) (htw : x.tw (ix k) = false) (hw0 : x.wh (ix k) ≠ 0) (hw1 : x.wh (ix k) = 1) :
  ∃ tz, Good x n c (k + 1) tz /\ ∀ rd, Step Try.prog rd (sE tE gE) lb (st HRE x n c k A B v) (fun e t => e = .normal /\ t = tz) := by
 have hlt := h.lt
 have hfw := h.few
 have hl := h.len
 have hmq := h.mem
 have bA := hA.bound (by omega)
 have bB := hB.bound (by omega)
 have fa1 := fA.a
 have fa2 := fA.pos
 have fa3 := fA.le
 have fa4 := congrArg List.length fA.m1
 have fa5 := hA.len
 exact ⟨_, gRE (Vs_dead hv) (hA.up (by omega)) fA (hB.up (by omega)), fun rd => sREs0 (KF := ha.kb) (Aw := hz.AB) (TT := hq.TT0) (TG := hq.tgN) rd hv (by refine ⟨(e20 ⟨⟨⟨⟨⟨⟨⟨⟨trivial, ?_⟩, ?_⟩, ?_⟩, htw⟩, (w0f hw0)⟩, (w1t hw1)⟩, (aTT hA (by omega))⟩, (aT1 hA fA (by have := hA.len; omega))⟩ (tag_of hA (by omega) fA.m1)), (fk_of (by omega))⟩ <;> first | omega | simp [nI, mostBytes] <;> omega)⟩
theorem qREs1 {tE : List Value} {gE : Nat -> Option Ob} {x : Acts} {n c k : Nat} {A B : Sd} {M N : List Int} {v : VF} (h : At x n k) (hv : ∀ i, DeadV (v i)) (hA : Side x A M (200 * k)) (hB : Side x B [] (200 * k)) (fA : Full A M) (htw : x.tw (ix k) = true) (hw0 : x.wh (ix k) ≠ 0) (hw1 : x.wh (ix k) = 1) :
  ∃ tz, Good x n c (k + 1) tz /\ ∀ rd, Step Try.prog rd (sE tE gE) lb (st HRE x n c k A B v) (fun e t => e = .normal /\ t = tz) := by
 have hlt := h.lt
 have hfw := h.few
 have hl := h.len
 have hmq := h.mem
 have bA := hA.bound (by omega)
 have bB := hB.bound (by omega)
 have fa1 := fA.a
 have fa2 := fA.pos
 have fa3 := fA.le
 have fa4 := congrArg List.length fA.m1
 have fa5 := hA.len
 exact ⟨_, gRE (Vs_dead hv) (hA.up (by omega)) fA (hB.up (by omega)), fun rd => sREs1 (KF := ha.kb) (Aw := hz.AB) (TT := hq.TT0) (TG := hq.tgN) rd hv (by refine ⟨(e20 ⟨⟨⟨⟨⟨⟨⟨⟨trivial, ?_⟩, ?_⟩, ?_⟩, htw⟩, (w0f hw0)⟩, (w1t hw1)⟩, (aTT hB (by omega))⟩, (aT0 hB)⟩ (tag_nil hB (by omega))), (fk_of (by omega))⟩ <;> first | omega | simp [nI, mostBytes] <;> omega)⟩
theorem qREc0 {tE : List Value} {gE : Nat -> Option Ob} {x : Acts} {n c k : Nat} {A B : Sd} {M N : List Int} {v : VF} (h : At x n k) (hv : ∀ i, DeadV (v i)) (hA : Side x A M (200 * k)) (hB : Side x B [] (200 * k)) (fA : Full A M) (htw : x.tw (ix k) = false) (hw0 : x.wh (ix k) ≠ 0) (hw1 : x.wh (ix k) ≠ 1) :
  ∃ tz, Good x n c (k + 1) tz /\ ∀ rd, Step Try.prog rd (sE tE gE) lb (st HRE x n c k A B v) (fun e t => e = .normal /\ t = tz) := by
 have hlt := h.lt
 have hfw := h.few
 have hl := h.len
 have hmq := h.mem
 have bA := hA.bound (by omega)
 have bB := hB.bound (by omega)
 have fa1 := fA.a
 have fa2 := fA.pos
 have fa3 := fA.le
 have fa4 := congrArg List.length fA.m1
 have fa5 := hA.len
 exact ⟨_, gEE (Vc_dead hv) (Side.any (hB.up (by omega)) _ _ _) (hB.up (by omega)), fun rd => sREc0 (KF := ha.kb) (Aw := hz.AB) (TT := hq.TT0) (TG := hq.tgN) rd hv (by refine ⟨⟨⟨⟨⟨⟨⟨trivial, ?_⟩, ?_⟩, ?_⟩, htw⟩, (w0f hw0)⟩, (w1f hw1)⟩, (fk_of (by omega))⟩ <;> first | omega | simp [nI, mostBytes] <;> omega)⟩
theorem qREc1 {tE : List Value} {gE : Nat -> Option Ob} {x : Acts} {n c k : Nat} {A B : Sd} {M N : List Int} {v : VF} (h : At x n k) (hv : ∀ i, DeadV (v i)) (hA : Side x A M (200 * k)) (hB : Side x B [] (200 * k)) (fA : Full A M) (htw : x.tw (ix k) = true) (hw0 : x.wh (ix k) ≠ 0) (hw1 : x.wh (ix k) ≠ 1) :
  ∃ tz, Good x n c (k + 1) tz /\ ∀ rd, Step Try.prog rd (sE tE gE) lb (st HRE x n c k A B v) (fun e t => e = .normal /\ t = tz) := by
 have hlt := h.lt
 have hfw := h.few
 have hl := h.len
 have hmq := h.mem
 have bA := hA.bound (by omega)
 have bB := hB.bound (by omega)
 have fa1 := fA.a
 have fa2 := fA.pos
 have fa3 := fA.le
 have fa4 := congrArg List.length fA.m1
 have fa5 := hA.len
 exact ⟨_, gSS (Vc_dead hv) (Side.any (hA.up (by omega)) _ _ _) (Full.any fA _ _ _ _) (Side.any (hA.up (by omega)) _ _ _), fun rd => sREc1 (KF := ha.kb) (Aw := hz.AB) (TT := hq.TT0) (TG := hq.tgN) rd hv (by refine ⟨⟨⟨⟨⟨⟨⟨trivial, ?_⟩, ?_⟩, ?_⟩, htw⟩, (w0f hw0)⟩, (w1f hw1)⟩, (fk_of (by omega))⟩ <;> first | omega | simp [nI, mostBytes] <;> omega)⟩
theorem qREw10 {tE : List Value} {gE : Nat -> Option Ob} {x : Acts} {n c k : Nat} {A B : Sd} {M N : List Int} {v : VF} (h : At x n k) (hv : ∀ i, DeadV (v i)) (hA : Side x A M (200 * k)) (hB : Side x B [] (200 * k)) (fA : Full A M) (htw : x.tw (ix k) = false) (hw0 : x.wh (ix k) = 0) (h0 : x.m (ix k) ≠ 0) :
  ∃ tz, Good x n c (k + 1) tz /\ ∀ rd, Step Try.prog rd (sE tE gE) lb (st HRE x n c k A B v) (fun e t => e = .normal /\ t = tz) := by
 have hlt := h.lt
 have hfw := h.few
 have hs := h.short hw0
 have hl := h.len
 have hmq := h.mem
 have bA := hA.bound (by omega)
 have bB := hB.bound (by omega)
 have fa1 := fA.a
 have fa2 := fA.pos
 have fa3 := fA.le
 have fa4 := congrArg List.length fA.m1
 have fa5 := hA.len
 exact ⟨_, gRE (Vw1_dead hv) (side_put (K := 200 * k) h hA (by omega) hs (wf_eq h)) (full_RF h fA) (hB.up (by omega)), fun rd => sREw10 (KF := ha.kb) (Aw := hz.AB) (TT := hq.TT0) (TG := hq.tgN) rd hv (by refine ⟨⟨⟨⟨⟨⟨⟨⟨⟨⟨⟨⟨⟨⟨⟨trivial, ?_⟩, ?_⟩, ?_⟩, htw⟩, (w0t hw0)⟩, ?_⟩, ?_⟩, ⟨hmq, ?_⟩⟩, (a22 h hA (wf_eq h) (by omega))⟩, (fun rd => loopJ hRE jnRE jxRE joRE x n c k _ _ (Vpre v) 0 (rowx x k) (x.m (ix k)) rfl (by omega) (by omega) hl (Vpre_dead hv) rd)⟩, ?_⟩, ?_⟩, ?_⟩, ⟨hmq, ?_⟩⟩, (fk_of (by omega))⟩ <;> first | omega | simp [nI, mostBytes] <;> omega)⟩
theorem qREw11 {tE : List Value} {gE : Nat -> Option Ob} {x : Acts} {n c k : Nat} {A B : Sd} {M N : List Int} {v : VF} (h : At x n k) (hv : ∀ i, DeadV (v i)) (hA : Side x A M (200 * k)) (hB : Side x B [] (200 * k)) (fA : Full A M) (htw : x.tw (ix k) = true) (hw0 : x.wh (ix k) = 0) (h0 : x.m (ix k) ≠ 0) :
  ∃ tz, Good x n c (k + 1) tz /\ ∀ rd, Step Try.prog rd (sE tE gE) lb (st HRE x n c k A B v) (fun e t => e = .normal /\ t = tz) := by
 have hlt := h.lt
 have hfw := h.few
 have hs := h.short hw0
 have hl := h.len
 have hmq := h.mem
 have bA := hA.bound (by omega)
 have bB := hB.bound (by omega)
 have fa1 := fA.a
 have fa2 := fA.pos
 have fa3 := fA.le
 have fa4 := congrArg List.length fA.m1
 have fa5 := hA.len
 exact ⟨_, gRR (Vw1_dead hv) (hA.up (by omega)) fA (side_put (K := 200 * k) h hB (by omega) hs (wf_eq h)) (full_EF h h0), fun rd => sREw11 (KF := ha.kb) (Aw := hz.AB) (TT := hq.TT0) (TG := hq.tgN) rd hv (by refine ⟨⟨⟨⟨⟨⟨⟨⟨⟨⟨⟨⟨⟨⟨trivial, ?_⟩, ?_⟩, ?_⟩, htw⟩, (w0t hw0)⟩, ?_⟩, ?_⟩, ⟨hmq, ?_⟩⟩, (a22 h hB (wf_eq h) (by omega))⟩, (fun rd => loopJ hRE jnRE jxRE joRE x n c k _ _ (Vpre v) 1 (rowx x k) (x.m (ix k)) rfl (by omega) (by omega) hl (Vpre_dead hv) rd)⟩, ⟨.inl rfl, Nat.le_refl _⟩⟩, ?_⟩, ⟨hmq, ?_⟩⟩, (fk_of (by omega))⟩ <;> first | omega | simp [nI, mostBytes] <;> omega)⟩
theorem qREw00 {tE : List Value} {gE : Nat -> Option Ob} {x : Acts} {n c k : Nat} {A B : Sd} {M N : List Int} {v : VF} (h : At x n k) (hv : ∀ i, DeadV (v i)) (hA : Side x A M (200 * k)) (hB : Side x B [] (200 * k)) (fA : Full A M) (htw : x.tw (ix k) = false) (hw0 : x.wh (ix k) = 0) (h0 : x.m (ix k) = 0) :
  ∃ tz, Good x n c (k + 1) tz /\ ∀ rd, Step Try.prog rd (sE tE gE) lb (st HRE x n c k A B v) (fun e t => e = .normal /\ t = tz) := by
 have hlt := h.lt
 have hfw := h.few
 have hs := h.short hw0
 have hl := h.len
 have hmq := h.mem
 have bA := hA.bound (by omega)
 have bB := hB.bound (by omega)
 have fa1 := fA.a
 have fa2 := fA.pos
 have fa3 := fA.le
 have fa4 := congrArg List.length fA.m1
 have fa5 := hA.len
 exact ⟨_, gRE (Vw0_dead hv) (side_put (K := 200 * k) h hA (by omega) hs (wz_eq h h0)) (full_RZ h h0 fA) (hB.up (by omega)), fun rd => sREw00 (KF := ha.kb) (Aw := hz.AB) (TT := hq.TT0) (TG := hq.tgN) rd hv (by refine ⟨⟨⟨⟨⟨⟨⟨⟨⟨⟨⟨⟨⟨⟨⟨trivial, ?_⟩, ?_⟩, ?_⟩, htw⟩, (w0t hw0)⟩, ?_⟩, ?_⟩, ⟨hmq, ?_⟩⟩, (a22 h hA (wz_eq h h0) (by omega))⟩, ?_⟩, ?_⟩, ?_⟩, ?_⟩, ⟨hmq, ?_⟩⟩, (fk_of (by omega))⟩ <;> first | omega | simp [nI, mostBytes] <;> omega)⟩
theorem qREw01 {tE : List Value} {gE : Nat -> Option Ob} {x : Acts} {n c k : Nat} {A B : Sd} {M N : List Int} {v : VF} (h : At x n k) (hv : ∀ i, DeadV (v i)) (hA : Side x A M (200 * k)) (hB : Side x B [] (200 * k)) (fA : Full A M) (htw : x.tw (ix k) = true) (hw0 : x.wh (ix k) = 0) (h0 : x.m (ix k) = 0) :
  ∃ tz, Good x n c (k + 1) tz /\ ∀ rd, Step Try.prog rd (sE tE gE) lb (st HRE x n c k A B v) (fun e t => e = .normal /\ t = tz) := by
 have hlt := h.lt
 have hfw := h.few
 have hs := h.short hw0
 have hl := h.len
 have hmq := h.mem
 have bA := hA.bound (by omega)
 have bB := hB.bound (by omega)
 have fa1 := fA.a
 have fa2 := fA.pos
 have fa3 := fA.le
 have fa4 := congrArg List.length fA.m1
 have fa5 := hA.len
 exact ⟨_, gRE (Vw0_dead hv) (hA.up (by omega)) fA (by have := side_put (K := 200 * k) (L := B.L) (a := B.a) (q := B.q) h hB (by omega) hs (wz_eq h h0); rw [row_nil h h0, List.append_nil] at this; exact this), fun rd => Step.weaken (t2 := st HRE x n c (k + 1) A (⟨hz.AB (wz x k) (hz.hOf (hz.cH B.h B.z)), IntKind.i64.wrap (intAt (hz.cH B.h B.z) 70 + ((0 + x.m (ix k) : Nat) : Int)), B.w, B.y, B.L, B.a, B.q⟩) (Vw0 v)) (wk_HH (.inl rfl) (zl0 112 (by omega))) (sREw01 (KF := ha.kb) (Aw := hz.AB) (TT := hq.TT0) (TG := hq.tgN) rd hv (by refine ⟨⟨⟨⟨⟨⟨⟨⟨⟨⟨⟨⟨⟨⟨trivial, ?_⟩, ?_⟩, ?_⟩, htw⟩, (w0t hw0)⟩, ?_⟩, ?_⟩, ⟨hmq, ?_⟩⟩, (a22 h hB (wz_eq h h0) (by omega))⟩, ?_⟩, ⟨.inl rfl, Nat.le_refl _⟩⟩, ?_⟩, ⟨hmq, ?_⟩⟩, (fk_of (by omega))⟩ <;> first | omega | simp [nI, mostBytes] <;> omega))⟩
theorem qRRs0 {tE : List Value} {gE : Nat -> Option Ob} {x : Acts} {n c k : Nat} {A B : Sd} {M N : List Int} {v : VF} (h : At x n k) (hv : ∀ i, DeadV (v i)) (hA : Side x A M (200 * k)) (hB : Side x B N (200 * k)) (fA : Full A M) (fB : Full B N) (htw : x.tw (ix k) = false) (hw0 : x.wh (ix k) ≠ 0) (hw1 : x.wh (ix k) = 1) :
  ∃ tz, Good x n c (k + 1) tz /\ ∀ rd, Step Try.prog rd (sE tE gE) lb (st HRR x n c k A B v) (fun e t => e = .normal /\ t = tz) := by
 have hlt := h.lt
 have hfw := h.few
 have hl := h.len
 have hmq := h.mem
 have bA := hA.bound (by omega)
 have bB := hB.bound (by omega)
 have fa1 := fA.a
 have fa2 := fA.pos
 have fa3 := fA.le
 have fa4 := congrArg List.length fA.m1
 have fa5 := hA.len
 have fb1 := fB.a
 have fb2 := fB.pos
 have fb3 := fB.le
 have fb4 := congrArg List.length fB.m1
 have fb5 := hB.len
 exact ⟨_, gRR (Vs_dead hv) (hA.up (by omega)) fA (hB.up (by omega)) fB, fun rd => sRRs0 (KF := ha.kb) (Aw := hz.AB) (TT := hq.TT0) (TG := hq.tgN) rd hv (by refine ⟨(e20 ⟨⟨⟨⟨⟨⟨⟨⟨trivial, ?_⟩, ?_⟩, ?_⟩, htw⟩, (w0f hw0)⟩, (w1t hw1)⟩, (aTT hA (by omega))⟩, (aT1 hA fA (by have := hA.len; omega))⟩ (tag_of hA (by omega) fA.m1)), (fk_of (by omega))⟩ <;> first | omega | simp [nI, mostBytes] <;> omega)⟩
theorem qRRs1 {tE : List Value} {gE : Nat -> Option Ob} {x : Acts} {n c k : Nat} {A B : Sd} {M N : List Int} {v : VF} (h : At x n k) (hv : ∀ i, DeadV (v i)) (hA : Side x A M (200 * k)) (hB : Side x B N (200 * k)) (fA : Full A M) (fB : Full B N) (htw : x.tw (ix k) = true) (hw0 : x.wh (ix k) ≠ 0) (hw1 : x.wh (ix k) = 1) :
  ∃ tz, Good x n c (k + 1) tz /\ ∀ rd, Step Try.prog rd (sE tE gE) lb (st HRR x n c k A B v) (fun e t => e = .normal /\ t = tz) := by
 have hlt := h.lt
 have hfw := h.few
 have hl := h.len
 have hmq := h.mem
 have bA := hA.bound (by omega)
 have bB := hB.bound (by omega)
 have fa1 := fA.a
 have fa2 := fA.pos
 have fa3 := fA.le
 have fa4 := congrArg List.length fA.m1
 have fa5 := hA.len
 have fb1 := fB.a
 have fb2 := fB.pos
 have fb3 := fB.le
 have fb4 := congrArg List.length fB.m1
 have fb5 := hB.len
 exact ⟨_, gRR (Vs_dead hv) (hA.up (by omega)) fA (hB.up (by omega)) fB, fun rd => sRRs1 (KF := ha.kb) (Aw := hz.AB) (TT := hq.TT0) (TG := hq.tgN) rd hv (by refine ⟨(e20 ⟨⟨⟨⟨⟨⟨⟨⟨trivial, ?_⟩, ?_⟩, ?_⟩, htw⟩, (w0f hw0)⟩, (w1t hw1)⟩, (aTT hB (by omega))⟩, (aT1 hB fB (by have := hB.len; omega))⟩ (tag_of hB (by omega) fB.m1)), (fk_of (by omega))⟩ <;> first | omega | simp [nI, mostBytes] <;> omega)⟩
theorem qRRc0 {tE : List Value} {gE : Nat -> Option Ob} {x : Acts} {n c k : Nat} {A B : Sd} {M N : List Int} {v : VF} (h : At x n k) (hv : ∀ i, DeadV (v i)) (hA : Side x A M (200 * k)) (hB : Side x B N (200 * k)) (fA : Full A M) (fB : Full B N) (htw : x.tw (ix k) = false) (hw0 : x.wh (ix k) ≠ 0) (hw1 : x.wh (ix k) ≠ 1) :
  ∃ tz, Good x n c (k + 1) tz /\ ∀ rd, Step Try.prog rd (sE tE gE) lb (st HRR x n c k A B v) (fun e t => e = .normal /\ t = tz) := by
 have hlt := h.lt
 have hfw := h.few
 have hl := h.len
 have hmq := h.mem
 have bA := hA.bound (by omega)
 have bB := hB.bound (by omega)
 have fa1 := fA.a
 have fa2 := fA.pos
 have fa3 := fA.le
 have fa4 := congrArg List.length fA.m1
 have fa5 := hA.len
 have fb1 := fB.a
 have fb2 := fB.pos
 have fb3 := fB.le
 have fb4 := congrArg List.length fB.m1
 have fb5 := hB.len
 exact ⟨_, gSS (Vc_dead hv) (Side.any (hB.up (by omega)) _ _ _) (Full.any fB _ _ _ _) (Side.any (hB.up (by omega)) _ _ _), fun rd => sRRc0 (KF := ha.kb) (Aw := hz.AB) (TT := hq.TT0) (TG := hq.tgN) rd hv (by refine ⟨⟨⟨⟨⟨⟨⟨trivial, ?_⟩, ?_⟩, ?_⟩, htw⟩, (w0f hw0)⟩, (w1f hw1)⟩, (fk_of (by omega))⟩ <;> first | omega | simp [nI, mostBytes] <;> omega)⟩
theorem qRRc1 {tE : List Value} {gE : Nat -> Option Ob} {x : Acts} {n c k : Nat} {A B : Sd} {M N : List Int} {v : VF} (h : At x n k) (hv : ∀ i, DeadV (v i)) (hA : Side x A M (200 * k)) (hB : Side x B N (200 * k)) (fA : Full A M) (fB : Full B N) (htw : x.tw (ix k) = true) (hw0 : x.wh (ix k) ≠ 0) (hw1 : x.wh (ix k) ≠ 1) :
  ∃ tz, Good x n c (k + 1) tz /\ ∀ rd, Step Try.prog rd (sE tE gE) lb (st HRR x n c k A B v) (fun e t => e = .normal /\ t = tz) := by
 have hlt := h.lt
 have hfw := h.few
 have hl := h.len
 have hmq := h.mem
 have bA := hA.bound (by omega)
 have bB := hB.bound (by omega)
 have fa1 := fA.a
 have fa2 := fA.pos
 have fa3 := fA.le
 have fa4 := congrArg List.length fA.m1
 have fa5 := hA.len
 have fb1 := fB.a
 have fb2 := fB.pos
 have fb3 := fB.le
 have fb4 := congrArg List.length fB.m1
 have fb5 := hB.len
 exact ⟨_, gSS (Vc_dead hv) (Side.any (hA.up (by omega)) _ _ _) (Full.any fA _ _ _ _) (Side.any (hA.up (by omega)) _ _ _), fun rd => sRRc1 (KF := ha.kb) (Aw := hz.AB) (TT := hq.TT0) (TG := hq.tgN) rd hv (by refine ⟨⟨⟨⟨⟨⟨⟨trivial, ?_⟩, ?_⟩, ?_⟩, htw⟩, (w0f hw0)⟩, (w1f hw1)⟩, (fk_of (by omega))⟩ <;> first | omega | simp [nI, mostBytes] <;> omega)⟩
theorem qRRw10 {tE : List Value} {gE : Nat -> Option Ob} {x : Acts} {n c k : Nat} {A B : Sd} {M N : List Int} {v : VF} (h : At x n k) (hv : ∀ i, DeadV (v i)) (hA : Side x A M (200 * k)) (hB : Side x B N (200 * k)) (fA : Full A M) (fB : Full B N) (htw : x.tw (ix k) = false) (hw0 : x.wh (ix k) = 0) (h0 : x.m (ix k) ≠ 0) :
  ∃ tz, Good x n c (k + 1) tz /\ ∀ rd, Step Try.prog rd (sE tE gE) lb (st HRR x n c k A B v) (fun e t => e = .normal /\ t = tz) := by
 have hlt := h.lt
 have hfw := h.few
 have hs := h.short hw0
 have hl := h.len
 have hmq := h.mem
 have bA := hA.bound (by omega)
 have bB := hB.bound (by omega)
 have fa1 := fA.a
 have fa2 := fA.pos
 have fa3 := fA.le
 have fa4 := congrArg List.length fA.m1
 have fa5 := hA.len
 have fb1 := fB.a
 have fb2 := fB.pos
 have fb3 := fB.le
 have fb4 := congrArg List.length fB.m1
 have fb5 := hB.len
 exact ⟨_, gRR (Vw1_dead hv) (side_put (K := 200 * k) h hA (by omega) hs (wf_eq h)) (full_RF h fA) (hB.up (by omega)) fB, fun rd => sRRw10 (KF := ha.kb) (Aw := hz.AB) (TT := hq.TT0) (TG := hq.tgN) rd hv (by refine ⟨⟨⟨⟨⟨⟨⟨⟨⟨⟨⟨⟨⟨⟨⟨trivial, ?_⟩, ?_⟩, ?_⟩, htw⟩, (w0t hw0)⟩, ?_⟩, ?_⟩, ⟨hmq, ?_⟩⟩, (a22 h hA (wf_eq h) (by omega))⟩, (fun rd => loopJ hRR jnRR jxRR joRR x n c k _ _ (Vpre v) 0 (rowx x k) (x.m (ix k)) rfl (by omega) (by omega) hl (Vpre_dead hv) rd)⟩, ?_⟩, ?_⟩, ?_⟩, ⟨hmq, ?_⟩⟩, (fk_of (by omega))⟩ <;> first | omega | simp [nI, mostBytes] <;> omega)⟩
theorem qRRw11 {tE : List Value} {gE : Nat -> Option Ob} {x : Acts} {n c k : Nat} {A B : Sd} {M N : List Int} {v : VF} (h : At x n k) (hv : ∀ i, DeadV (v i)) (hA : Side x A M (200 * k)) (hB : Side x B N (200 * k)) (fA : Full A M) (fB : Full B N) (htw : x.tw (ix k) = true) (hw0 : x.wh (ix k) = 0) (h0 : x.m (ix k) ≠ 0) :
  ∃ tz, Good x n c (k + 1) tz /\ ∀ rd, Step Try.prog rd (sE tE gE) lb (st HRR x n c k A B v) (fun e t => e = .normal /\ t = tz) := by
 have hlt := h.lt
 have hfw := h.few
 have hs := h.short hw0
 have hl := h.len
 have hmq := h.mem
 have bA := hA.bound (by omega)
 have bB := hB.bound (by omega)
 have fa1 := fA.a
 have fa2 := fA.pos
 have fa3 := fA.le
 have fa4 := congrArg List.length fA.m1
 have fa5 := hA.len
 have fb1 := fB.a
 have fb2 := fB.pos
 have fb3 := fB.le
 have fb4 := congrArg List.length fB.m1
 have fb5 := hB.len
 exact ⟨_, gRR (Vw1_dead hv) (hA.up (by omega)) fA (side_put (K := 200 * k) h hB (by omega) hs (wf_eq h)) (full_RF h fB), fun rd => sRRw11 (KF := ha.kb) (Aw := hz.AB) (TT := hq.TT0) (TG := hq.tgN) rd hv (by refine ⟨⟨⟨⟨⟨⟨⟨⟨⟨⟨⟨⟨⟨⟨⟨trivial, ?_⟩, ?_⟩, ?_⟩, htw⟩, (w0t hw0)⟩, ?_⟩, ?_⟩, ⟨hmq, ?_⟩⟩, (a22 h hB (wf_eq h) (by omega))⟩, (fun rd => loopJ hRR jnRR jxRR joRR x n c k _ _ (Vpre v) 1 (rowx x k) (x.m (ix k)) rfl (by omega) (by omega) hl (Vpre_dead hv) rd)⟩, ?_⟩, ?_⟩, ?_⟩, ⟨hmq, ?_⟩⟩, (fk_of (by omega))⟩ <;> first | omega | simp [nI, mostBytes] <;> omega)⟩
theorem qRRw00 {tE : List Value} {gE : Nat -> Option Ob} {x : Acts} {n c k : Nat} {A B : Sd} {M N : List Int} {v : VF} (h : At x n k) (hv : ∀ i, DeadV (v i)) (hA : Side x A M (200 * k)) (hB : Side x B N (200 * k)) (fA : Full A M) (fB : Full B N) (htw : x.tw (ix k) = false) (hw0 : x.wh (ix k) = 0) (h0 : x.m (ix k) = 0) :
  ∃ tz, Good x n c (k + 1) tz /\ ∀ rd, Step Try.prog rd (sE tE gE) lb (st HRR x n c k A B v) (fun e t => e = .normal /\ t = tz) := by
 have hlt := h.lt
 have hfw := h.few
 have hs := h.short hw0
 have hl := h.len
 have hmq := h.mem
 have bA := hA.bound (by omega)
 have bB := hB.bound (by omega)
 have fa1 := fA.a
 have fa2 := fA.pos
 have fa3 := fA.le
 have fa4 := congrArg List.length fA.m1
 have fa5 := hA.len
 have fb1 := fB.a
 have fb2 := fB.pos
 have fb3 := fB.le
 have fb4 := congrArg List.length fB.m1
 have fb5 := hB.len
 exact ⟨_, gRR (Vw0_dead hv) (side_put (K := 200 * k) h hA (by omega) hs (wz_eq h h0)) (full_RZ h h0 fA) (hB.up (by omega)) fB, fun rd => sRRw00 (KF := ha.kb) (Aw := hz.AB) (TT := hq.TT0) (TG := hq.tgN) rd hv (by refine ⟨⟨⟨⟨⟨⟨⟨⟨⟨⟨⟨⟨⟨⟨⟨trivial, ?_⟩, ?_⟩, ?_⟩, htw⟩, (w0t hw0)⟩, ?_⟩, ?_⟩, ⟨hmq, ?_⟩⟩, (a22 h hA (wz_eq h h0) (by omega))⟩, ?_⟩, ?_⟩, ?_⟩, ?_⟩, ⟨hmq, ?_⟩⟩, (fk_of (by omega))⟩ <;> first | omega | simp [nI, mostBytes] <;> omega)⟩
theorem qRRw01 {tE : List Value} {gE : Nat -> Option Ob} {x : Acts} {n c k : Nat} {A B : Sd} {M N : List Int} {v : VF} (h : At x n k) (hv : ∀ i, DeadV (v i)) (hA : Side x A M (200 * k)) (hB : Side x B N (200 * k)) (fA : Full A M) (fB : Full B N) (htw : x.tw (ix k) = true) (hw0 : x.wh (ix k) = 0) (h0 : x.m (ix k) = 0) :
  ∃ tz, Good x n c (k + 1) tz /\ ∀ rd, Step Try.prog rd (sE tE gE) lb (st HRR x n c k A B v) (fun e t => e = .normal /\ t = tz) := by
 have hlt := h.lt
 have hfw := h.few
 have hs := h.short hw0
 have hl := h.len
 have hmq := h.mem
 have bA := hA.bound (by omega)
 have bB := hB.bound (by omega)
 have fa1 := fA.a
 have fa2 := fA.pos
 have fa3 := fA.le
 have fa4 := congrArg List.length fA.m1
 have fa5 := hA.len
 have fb1 := fB.a
 have fb2 := fB.pos
 have fb3 := fB.le
 have fb4 := congrArg List.length fB.m1
 have fb5 := hB.len
 exact ⟨_, gRR (Vw0_dead hv) (hA.up (by omega)) fA (side_put (K := 200 * k) h hB (by omega) hs (wz_eq h h0)) (full_RZ h h0 fB), fun rd => sRRw01 (KF := ha.kb) (Aw := hz.AB) (TT := hq.TT0) (TG := hq.tgN) rd hv (by refine ⟨⟨⟨⟨⟨⟨⟨⟨⟨⟨⟨⟨⟨⟨⟨trivial, ?_⟩, ?_⟩, ?_⟩, htw⟩, (w0t hw0)⟩, ?_⟩, ?_⟩, ⟨hmq, ?_⟩⟩, (a22 h hB (wz_eq h h0) (by omega))⟩, ?_⟩, ?_⟩, ?_⟩, ?_⟩, ⟨hmq, ?_⟩⟩, (fk_of (by omega))⟩ <;> first | omega | simp [nI, mostBytes] <;> omega)⟩
theorem qSSs0 {tE : List Value} {gE : Nat -> Option Ob} {x : Acts} {n c k : Nat} {A B : Sd} {M N : List Int} {v : VF} (h : At x n k) (hv : ∀ i, DeadV (v i)) (hA : Side x A M (200 * k)) (hB : Side x B M (200 * k)) (fA : Full A M) (htw : x.tw (ix k) = false) (hw0 : x.wh (ix k) ≠ 0) (hw1 : x.wh (ix k) = 1) :
  ∃ tz, Good x n c (k + 1) tz /\ ∀ rd, Step Try.prog rd (sE tE gE) lb (st HSS x n c k A B v) (fun e t => e = .normal /\ t = tz) := by
 have hlt := h.lt
 have hfw := h.few
 have hl := h.len
 have hmq := h.mem
 have bA := hA.bound (by omega)
 have bB := hB.bound (by omega)
 have fa1 := fA.a
 have fa2 := fA.pos
 have fa3 := fA.le
 have fa4 := congrArg List.length fA.m1
 have fa5 := hA.len
 exact ⟨_, gSS (Vs_dead hv) (hA.up (by omega)) fA (hB.up (by omega)), fun rd => sSSs0 (KF := ha.kb) (Aw := hz.AB) (TT := hq.TT0) (TG := hq.tgN) rd hv (by refine ⟨(e20 ⟨⟨⟨⟨⟨⟨⟨⟨trivial, ?_⟩, ?_⟩, ?_⟩, htw⟩, (w0f hw0)⟩, (w1t hw1)⟩, (aTT hA (by omega))⟩, (aT1 hA fA (by have := hA.len; omega))⟩ (tag_of hA (by omega) fA.m1)), (fk_of (by omega))⟩ <;> first | omega | simp [nI, mostBytes] <;> omega)⟩
theorem qSSs1 {tE : List Value} {gE : Nat -> Option Ob} {x : Acts} {n c k : Nat} {A B : Sd} {M N : List Int} {v : VF} (h : At x n k) (hv : ∀ i, DeadV (v i)) (hA : Side x A M (200 * k)) (hB : Side x B M (200 * k)) (fA : Full A M) (htw : x.tw (ix k) = true) (hw0 : x.wh (ix k) ≠ 0) (hw1 : x.wh (ix k) = 1) :
  ∃ tz, Good x n c (k + 1) tz /\ ∀ rd, Step Try.prog rd (sE tE gE) lb (st HSS x n c k A B v) (fun e t => e = .normal /\ t = tz) := by
 have hlt := h.lt
 have hfw := h.few
 have hl := h.len
 have hmq := h.mem
 have bA := hA.bound (by omega)
 have bB := hB.bound (by omega)
 have fa1 := fA.a
 have fa2 := fA.pos
 have fa3 := fA.le
 have fa4 := congrArg List.length fA.m1
 have fa5 := hA.len
 exact ⟨_, gSS (Vs_dead hv) (hA.up (by omega)) fA (hB.up (by omega)), fun rd => sSSs1 (KF := ha.kb) (Aw := hz.AB) (TT := hq.TT0) (TG := hq.tgN) rd hv (by refine ⟨(e20 ⟨⟨⟨⟨⟨⟨⟨⟨trivial, ?_⟩, ?_⟩, ?_⟩, htw⟩, (w0f hw0)⟩, (w1t hw1)⟩, (aTT hB (by omega))⟩, (aT1 hB fA (by have := hA.len; omega))⟩ (tag_of hB (by omega) fA.m1)), (fk_of (by omega))⟩ <;> first | omega | simp [nI, mostBytes] <;> omega)⟩
theorem qSSc0 {tE : List Value} {gE : Nat -> Option Ob} {x : Acts} {n c k : Nat} {A B : Sd} {M N : List Int} {v : VF} (h : At x n k) (hv : ∀ i, DeadV (v i)) (hA : Side x A M (200 * k)) (hB : Side x B M (200 * k)) (fA : Full A M) (htw : x.tw (ix k) = false) (hw0 : x.wh (ix k) ≠ 0) (hw1 : x.wh (ix k) ≠ 1) :
  ∃ tz, Good x n c (k + 1) tz /\ ∀ rd, Step Try.prog rd (sE tE gE) lb (st HSS x n c k A B v) (fun e t => e = .normal /\ t = tz) := by
 have hlt := h.lt
 have hfw := h.few
 have hl := h.len
 have hmq := h.mem
 have bA := hA.bound (by omega)
 have bB := hB.bound (by omega)
 have fa1 := fA.a
 have fa2 := fA.pos
 have fa3 := fA.le
 have fa4 := congrArg List.length fA.m1
 have fa5 := hA.len
 exact ⟨_, gSS (Vc_dead hv) (Side.any (hB.up (by omega)) _ _ _) (Full.any fA _ _ _ _) (Side.any (hB.up (by omega)) _ _ _), fun rd => sSSc0 (KF := ha.kb) (Aw := hz.AB) (TT := hq.TT0) (TG := hq.tgN) rd hv (by refine ⟨⟨⟨⟨⟨⟨⟨trivial, ?_⟩, ?_⟩, ?_⟩, htw⟩, (w0f hw0)⟩, (w1f hw1)⟩, (fk_of (by omega))⟩ <;> first | omega | simp [nI, mostBytes] <;> omega)⟩
theorem qSSc1 {tE : List Value} {gE : Nat -> Option Ob} {x : Acts} {n c k : Nat} {A B : Sd} {M N : List Int} {v : VF} (h : At x n k) (hv : ∀ i, DeadV (v i)) (hA : Side x A M (200 * k)) (hB : Side x B M (200 * k)) (fA : Full A M) (htw : x.tw (ix k) = true) (hw0 : x.wh (ix k) ≠ 0) (hw1 : x.wh (ix k) ≠ 1) :
  ∃ tz, Good x n c (k + 1) tz /\ ∀ rd, Step Try.prog rd (sE tE gE) lb (st HSS x n c k A B v) (fun e t => e = .normal /\ t = tz) := by
 have hlt := h.lt
 have hfw := h.few
 have hl := h.len
 have hmq := h.mem
 have bA := hA.bound (by omega)
 have bB := hB.bound (by omega)
 have fa1 := fA.a
 have fa2 := fA.pos
 have fa3 := fA.le
 have fa4 := congrArg List.length fA.m1
 have fa5 := hA.len
 exact ⟨_, gSS (Vc_dead hv) (Side.any (hA.up (by omega)) _ _ _) (Full.any fA _ _ _ _) (Side.any (hA.up (by omega)) _ _ _), fun rd => sSSc1 (KF := ha.kb) (Aw := hz.AB) (TT := hq.TT0) (TG := hq.tgN) rd hv (by refine ⟨⟨⟨⟨⟨⟨⟨trivial, ?_⟩, ?_⟩, ?_⟩, htw⟩, (w0f hw0)⟩, (w1f hw1)⟩, (fk_of (by omega))⟩ <;> first | omega | simp [nI, mostBytes] <;> omega)⟩
theorem qSSw10 {tE : List Value} {gE : Nat -> Option Ob} {x : Acts} {n c k : Nat} {A B : Sd} {M N : List Int} {v : VF} (h : At x n k) (hv : ∀ i, DeadV (v i)) (hA : Side x A M (200 * k)) (hB : Side x B M (200 * k)) (fA : Full A M) (htw : x.tw (ix k) = false) (hw0 : x.wh (ix k) = 0) (h0 : x.m (ix k) ≠ 0) :
  ∃ tz, Good x n c (k + 1) tz /\ ∀ rd, Step Try.prog rd (sE tE gE) lb (st HSS x n c k A B v) (fun e t => e = .normal /\ t = tz) := by
 have hlt := h.lt
 have hfw := h.few
 have hs := h.short hw0
 have hl := h.len
 have hmq := h.mem
 have bA := hA.bound (by omega)
 have bB := hB.bound (by omega)
 have fa1 := fA.a
 have fa2 := fA.pos
 have fa3 := fA.le
 have fa4 := congrArg List.length fA.m1
 have fa5 := hA.len
 exact ⟨_, gRR (Vw1_dead hv) (side_put (K := 200 * k) h hA (by omega) hs (wf_eq h)) (full_RF h fA) (Side.any (hB.up (by omega)) _ _ _) (Full.any fA _ _ _ _), fun rd => sSSw10 (KF := ha.kb) (Aw := hz.AB) (TT := hq.TT0) (TG := hq.tgN) rd hv (by refine ⟨⟨⟨⟨⟨⟨⟨⟨⟨⟨⟨⟨⟨⟨⟨trivial, ?_⟩, ?_⟩, ?_⟩, htw⟩, (w0t hw0)⟩, ?_⟩, ?_⟩, ⟨hmq, ?_⟩⟩, (a22 h hA (wf_eq h) (by omega))⟩, (fun rd => loopJ hSS jnSS jxSS joSS x n c k _ _ (Vpre v) 0 (rowx x k) (x.m (ix k)) rfl (by omega) (by omega) hl (Vpre_dead hv) rd)⟩, ?_⟩, ?_⟩, ?_⟩, ⟨hmq, ?_⟩⟩, (fk_of (by omega))⟩ <;> first | omega | simp [nI, mostBytes] <;> omega)⟩
theorem qSSw11 {tE : List Value} {gE : Nat -> Option Ob} {x : Acts} {n c k : Nat} {A B : Sd} {M N : List Int} {v : VF} (h : At x n k) (hv : ∀ i, DeadV (v i)) (hA : Side x A M (200 * k)) (hB : Side x B M (200 * k)) (fA : Full A M) (htw : x.tw (ix k) = true) (hw0 : x.wh (ix k) = 0) (h0 : x.m (ix k) ≠ 0) :
  ∃ tz, Good x n c (k + 1) tz /\ ∀ rd, Step Try.prog rd (sE tE gE) lb (st HSS x n c k A B v) (fun e t => e = .normal /\ t = tz) := by
 have hlt := h.lt
 have hfw := h.few
 have hs := h.short hw0
 have hl := h.len
 have hmq := h.mem
 have bA := hA.bound (by omega)
 have bB := hB.bound (by omega)
 have fa1 := fA.a
 have fa2 := fA.pos
 have fa3 := fA.le
 have fa4 := congrArg List.length fA.m1
 have fa5 := hA.len
 exact ⟨_, gRR (Vw1_dead hv) (Side.any (hA.up (by omega)) _ _ _) (Full.any fA _ _ _ _) (side_put (K := 200 * k) h hB (by omega) hs (wf_eq h)) (full_RF h fA), fun rd => sSSw11 (KF := ha.kb) (Aw := hz.AB) (TT := hq.TT0) (TG := hq.tgN) rd hv (by refine ⟨⟨⟨⟨⟨⟨⟨⟨⟨⟨⟨⟨⟨⟨⟨trivial, ?_⟩, ?_⟩, ?_⟩, htw⟩, (w0t hw0)⟩, ?_⟩, ?_⟩, ⟨hmq, ?_⟩⟩, (a22 h hB (wf_eq h) (by omega))⟩, (fun rd => loopJ hSS jnSS jxSS joSS x n c k _ _ (Vpre v) 1 (rowx x k) (x.m (ix k)) rfl (by omega) (by omega) hl (Vpre_dead hv) rd)⟩, ?_⟩, ?_⟩, ?_⟩, ⟨hmq, ?_⟩⟩, (fk_of (by omega))⟩ <;> first | omega | simp [nI, mostBytes] <;> omega)⟩
theorem qSSw00 {tE : List Value} {gE : Nat -> Option Ob} {x : Acts} {n c k : Nat} {A B : Sd} {M N : List Int} {v : VF} (h : At x n k) (hv : ∀ i, DeadV (v i)) (hA : Side x A M (200 * k)) (hB : Side x B M (200 * k)) (fA : Full A M) (htw : x.tw (ix k) = false) (hw0 : x.wh (ix k) = 0) (h0 : x.m (ix k) = 0) :
  ∃ tz, Good x n c (k + 1) tz /\ ∀ rd, Step Try.prog rd (sE tE gE) lb (st HSS x n c k A B v) (fun e t => e = .normal /\ t = tz) := by
 have hlt := h.lt
 have hfw := h.few
 have hs := h.short hw0
 have hl := h.len
 have hmq := h.mem
 have bA := hA.bound (by omega)
 have bB := hB.bound (by omega)
 have fa1 := fA.a
 have fa2 := fA.pos
 have fa3 := fA.le
 have fa4 := congrArg List.length fA.m1
 have fa5 := hA.len
 exact ⟨_, gRR (Vw0_dead hv) (side_put (K := 200 * k) h hA (by omega) hs (wz_eq h h0)) (full_RZ h h0 fA) (Side.any (hB.up (by omega)) _ _ _) (Full.any fA _ _ _ _), fun rd => sSSw00 (KF := ha.kb) (Aw := hz.AB) (TT := hq.TT0) (TG := hq.tgN) rd hv (by refine ⟨⟨⟨⟨⟨⟨⟨⟨⟨⟨⟨⟨⟨⟨⟨trivial, ?_⟩, ?_⟩, ?_⟩, htw⟩, (w0t hw0)⟩, ?_⟩, ?_⟩, ⟨hmq, ?_⟩⟩, (a22 h hA (wz_eq h h0) (by omega))⟩, ?_⟩, ?_⟩, ?_⟩, ?_⟩, ⟨hmq, ?_⟩⟩, (fk_of (by omega))⟩ <;> first | omega | simp [nI, mostBytes] <;> omega)⟩
theorem qSSw01 {tE : List Value} {gE : Nat -> Option Ob} {x : Acts} {n c k : Nat} {A B : Sd} {M N : List Int} {v : VF} (h : At x n k) (hv : ∀ i, DeadV (v i)) (hA : Side x A M (200 * k)) (hB : Side x B M (200 * k)) (fA : Full A M) (htw : x.tw (ix k) = true) (hw0 : x.wh (ix k) = 0) (h0 : x.m (ix k) = 0) :
  ∃ tz, Good x n c (k + 1) tz /\ ∀ rd, Step Try.prog rd (sE tE gE) lb (st HSS x n c k A B v) (fun e t => e = .normal /\ t = tz) := by
 have hlt := h.lt
 have hfw := h.few
 have hs := h.short hw0
 have hl := h.len
 have hmq := h.mem
 have bA := hA.bound (by omega)
 have bB := hB.bound (by omega)
 have fa1 := fA.a
 have fa2 := fA.pos
 have fa3 := fA.le
 have fa4 := congrArg List.length fA.m1
 have fa5 := hA.len
 exact ⟨_, gRR (Vw0_dead hv) (Side.any (hA.up (by omega)) _ _ _) (Full.any fA _ _ _ _) (side_put (K := 200 * k) h hB (by omega) hs (wz_eq h h0)) (full_RZ h h0 fA), fun rd => sSSw01 (KF := ha.kb) (Aw := hz.AB) (TT := hq.TT0) (TG := hq.tgN) rd hv (by refine ⟨⟨⟨⟨⟨⟨⟨⟨⟨⟨⟨⟨⟨⟨⟨trivial, ?_⟩, ?_⟩, ?_⟩, htw⟩, (w0t hw0)⟩, ?_⟩, ?_⟩, ⟨hmq, ?_⟩⟩, (a22 h hB (wz_eq h h0) (by omega))⟩, ?_⟩, ?_⟩, ?_⟩, ?_⟩, ⟨hmq, ?_⟩⟩, (fk_of (by omega))⟩ <;> first | omega | simp [nI, mostBytes] <;> omega)⟩
theorem xEE (x : Acts) (n c k : Nat) (A B : Sd) (v : VF) (rd : Option Nat) : goT (KT x ha.kb hz.AB hq.TT0 hq.tgN) (st HEE x n c k A B v) rd [F] Bx (st HEE x n c k A B (Vx v)) (ir 113 []) = some (.exit 4, True /\ decide (nI k < nI n) = false, seenAsT Bx (st HEE x n c k A B (Vx v)) (ir 113 []) 113) := by kernel_rfl
theorem sxEE {tE : List Value} {gE : Nat -> Option Ob} {x : Acts} {n c : Nat} {A B : Sd} {v : VF} (rd : Option Nat) (hv : ∀ i, DeadV (v i)) : Step Try.prog rd (sE tE gE) lb (st HEE x n c n A B v) (fun e t => e = .exit 4 /\ t = st HEE x n c n A B (Vx v)) :=
 Step.stdT (s0 := sE tE gE) sw.pg (KT_ok x ha.kb hz.AB hq.TT0 hq.tgN) (B := Bx) (g := HEE x n A B) (xEE x n c n A B v rd) ⟨trivial, by simp only [nI, decide_eq_false_iff_not]; omega⟩ (show 107 <= 113 by decide) (tm_dead (Vx_dead hv) lv_x) (hEE x n _ _) rfl (by kernel_rfl)
theorem xRE (x : Acts) (n c k : Nat) (A B : Sd) (v : VF) (rd : Option Nat) : goT (KT x ha.kb hz.AB hq.TT0 hq.tgN) (st HRE x n c k A B v) rd [F] Bx (st HRE x n c k A B (Vx v)) (ir 113 []) = some (.exit 4, True /\ decide (nI k < nI n) = false, seenAsT Bx (st HRE x n c k A B (Vx v)) (ir 113 []) 113) := by kernel_rfl
theorem sxRE {tE : List Value} {gE : Nat -> Option Ob} {x : Acts} {n c : Nat} {A B : Sd} {v : VF} (rd : Option Nat) (hv : ∀ i, DeadV (v i)) : Step Try.prog rd (sE tE gE) lb (st HRE x n c n A B v) (fun e t => e = .exit 4 /\ t = st HRE x n c n A B (Vx v)) :=
 Step.stdT (s0 := sE tE gE) sw.pg (KT_ok x ha.kb hz.AB hq.TT0 hq.tgN) (B := Bx) (g := HRE x n A B) (xRE x n c n A B v rd) ⟨trivial, by simp only [nI, decide_eq_false_iff_not]; omega⟩ (show 107 <= 113 by decide) (tm_dead (Vx_dead hv) lv_x) (hRE x n _ _) rfl (by kernel_rfl)
theorem xER (x : Acts) (n c k : Nat) (A B : Sd) (v : VF) (rd : Option Nat) : goT (KT x ha.kb hz.AB hq.TT0 hq.tgN) (st HER x n c k A B v) rd [F] Bx (st HER x n c k A B (Vx v)) (ir 113 []) = some (.exit 4, True /\ decide (nI k < nI n) = false, seenAsT Bx (st HER x n c k A B (Vx v)) (ir 113 []) 113) := by kernel_rfl
theorem sxER {tE : List Value} {gE : Nat -> Option Ob} {x : Acts} {n c : Nat} {A B : Sd} {v : VF} (rd : Option Nat) (hv : ∀ i, DeadV (v i)) : Step Try.prog rd (sE tE gE) lb (st HER x n c n A B v) (fun e t => e = .exit 4 /\ t = st HER x n c n A B (Vx v)) :=
 Step.stdT (s0 := sE tE gE) sw.pg (KT_ok x ha.kb hz.AB hq.TT0 hq.tgN) (B := Bx) (g := HER x n A B) (xER x n c n A B v rd) ⟨trivial, by simp only [nI, decide_eq_false_iff_not]; omega⟩ (show 107 <= 113 by decide) (tm_dead (Vx_dead hv) lv_x) (hER x n _ _) rfl (by kernel_rfl)
theorem xRR (x : Acts) (n c k : Nat) (A B : Sd) (v : VF) (rd : Option Nat) : goT (KT x ha.kb hz.AB hq.TT0 hq.tgN) (st HRR x n c k A B v) rd [F] Bx (st HRR x n c k A B (Vx v)) (ir 113 []) = some (.exit 4, True /\ decide (nI k < nI n) = false, seenAsT Bx (st HRR x n c k A B (Vx v)) (ir 113 []) 113) := by kernel_rfl
theorem sxRR {tE : List Value} {gE : Nat -> Option Ob} {x : Acts} {n c : Nat} {A B : Sd} {v : VF} (rd : Option Nat) (hv : ∀ i, DeadV (v i)) : Step Try.prog rd (sE tE gE) lb (st HRR x n c n A B v) (fun e t => e = .exit 4 /\ t = st HRR x n c n A B (Vx v)) :=
 Step.stdT (s0 := sE tE gE) sw.pg (KT_ok x ha.kb hz.AB hq.TT0 hq.tgN) (B := Bx) (g := HRR x n A B) (xRR x n c n A B v rd) ⟨trivial, by simp only [nI, decide_eq_false_iff_not]; omega⟩ (show 107 <= 113 by decide) (tm_dead (Vx_dead hv) lv_x) (hRR x n _ _) rfl (by kernel_rfl)
theorem xSS (x : Acts) (n c k : Nat) (A B : Sd) (v : VF) (rd : Option Nat) : goT (KT x ha.kb hz.AB hq.TT0 hq.tgN) (st HSS x n c k A B v) rd [F] Bx (st HSS x n c k A B (Vx v)) (ir 113 []) = some (.exit 4, True /\ decide (nI k < nI n) = false, seenAsT Bx (st HSS x n c k A B (Vx v)) (ir 113 []) 113) := by kernel_rfl
theorem sxSS {tE : List Value} {gE : Nat -> Option Ob} {x : Acts} {n c : Nat} {A B : Sd} {v : VF} (rd : Option Nat) (hv : ∀ i, DeadV (v i)) : Step Try.prog rd (sE tE gE) lb (st HSS x n c n A B v) (fun e t => e = .exit 4 /\ t = st HSS x n c n A B (Vx v)) :=
 Step.stdT (s0 := sE tE gE) sw.pg (KT_ok x ha.kb hz.AB hq.TT0 hq.tgN) (B := Bx) (g := HSS x n A B) (xSS x n c n A B v rd) ⟨trivial, by simp only [nI, decide_eq_false_iff_not]; omega⟩ (show 107 <= 113 by decide) (tm_dead (Vx_dead hv) lv_x) (hSS x n _ _) rfl (by kernel_rfl)
theorem round {tE : List Value} {gE : Nat -> Option Ob} {x : Acts} {n c k : Nat} {t : St} (h : At x n k) (g : Good x n c k t) : ∃ tz, Good x n c (k + 1) tz /\ ∀ rd, Step Try.prog rd (sE tE gE) lb t (fun e s => e = .normal /\ s = tz) := by
 obtain ⟨A, B, M, N, v, hv, hA, hB, g⟩ := g
 rcases g with ⟨rfl, rfl, rfl⟩ | ⟨fA, rfl, rfl⟩ | ⟨rfl, fB, rfl⟩ | ⟨fA, fB, rfl⟩ | ⟨fA, rfl, rfl⟩
 ·cases htw : x.tw (ix k) with
  | false =>
   by_cases hw0 : x.wh (ix k) = 0
   ·by_cases h0 : x.m (ix k) = 0
    ·exact qEEw00 (M := []) (N := []) h hv hA hB htw hw0 h0
    ·exact qEEw10 (M := []) (N := []) h hv hA hB htw hw0 h0
   ·by_cases hw1 : x.wh (ix k) = 1
    ·exact qEEs0 (M := []) (N := []) h hv hA hB htw hw0 hw1
    ·exact qEEc0 (M := []) (N := []) h hv hA hB htw hw0 hw1
  | true =>
   by_cases hw0 : x.wh (ix k) = 0
   ·by_cases h0 : x.m (ix k) = 0
    ·exact qEEw01 (M := []) (N := []) h hv hA hB htw hw0 h0
    ·exact qEEw11 (M := []) (N := []) h hv hA hB htw hw0 h0
   ·by_cases hw1 : x.wh (ix k) = 1
    ·exact qEEs1 (M := []) (N := []) h hv hA hB htw hw0 hw1
    ·exact qEEc1 (M := []) (N := []) h hv hA hB htw hw0 hw1
 ·cases htw : x.tw (ix k) with
  | false =>
   by_cases hw0 : x.wh (ix k) = 0
   ·by_cases h0 : x.m (ix k) = 0
    ·exact qREw00 (N := []) h hv hA hB fA htw hw0 h0
    ·exact qREw10 (N := []) h hv hA hB fA htw hw0 h0
   ·by_cases hw1 : x.wh (ix k) = 1
    ·exact qREs0 (N := []) h hv hA hB fA htw hw0 hw1
    ·exact qREc0 (N := []) h hv hA hB fA htw hw0 hw1
  | true =>
   by_cases hw0 : x.wh (ix k) = 0
   ·by_cases h0 : x.m (ix k) = 0
    ·exact qREw01 (N := []) h hv hA hB fA htw hw0 h0
    ·exact qREw11 (N := []) h hv hA hB fA htw hw0 h0
   ·by_cases hw1 : x.wh (ix k) = 1
    ·exact qREs1 (N := []) h hv hA hB fA htw hw0 hw1
    ·exact qREc1 (N := []) h hv hA hB fA htw hw0 hw1
 ·cases htw : x.tw (ix k) with
  | false =>
   by_cases hw0 : x.wh (ix k) = 0
   ·by_cases h0 : x.m (ix k) = 0
    ·exact qERw00 (M := []) h hv hA hB fB htw hw0 h0
    ·exact qERw10 (M := []) h hv hA hB fB htw hw0 h0
   ·by_cases hw1 : x.wh (ix k) = 1
    ·exact qERs0 (M := []) h hv hA hB fB htw hw0 hw1
    ·exact qERc0 (M := []) h hv hA hB fB htw hw0 hw1
  | true =>
   by_cases hw0 : x.wh (ix k) = 0
   ·by_cases h0 : x.m (ix k) = 0
    ·exact qERw01 (M := []) h hv hA hB fB htw hw0 h0
    ·exact qERw11 (M := []) h hv hA hB fB htw hw0 h0
   ·by_cases hw1 : x.wh (ix k) = 1
    ·exact qERs1 (M := []) h hv hA hB fB htw hw0 hw1
    ·exact qERc1 (M := []) h hv hA hB fB htw hw0 hw1
 ·cases htw : x.tw (ix k) with
  | false =>
   by_cases hw0 : x.wh (ix k) = 0
   ·by_cases h0 : x.m (ix k) = 0
    ·exact qRRw00 h hv hA hB fA fB htw hw0 h0
    ·exact qRRw10 h hv hA hB fA fB htw hw0 h0
   ·by_cases hw1 : x.wh (ix k) = 1
    ·exact qRRs0 h hv hA hB fA fB htw hw0 hw1
    ·exact qRRc0 h hv hA hB fA fB htw hw0 hw1
  | true =>
   by_cases hw0 : x.wh (ix k) = 0
   ·by_cases h0 : x.m (ix k) = 0
    ·exact qRRw01 h hv hA hB fA fB htw hw0 h0
    ·exact qRRw11 h hv hA hB fA fB htw hw0 h0
   ·by_cases hw1 : x.wh (ix k) = 1
    ·exact qRRs1 h hv hA hB fA fB htw hw0 hw1
    ·exact qRRc1 h hv hA hB fA fB htw hw0 hw1
 ·cases htw : x.tw (ix k) with
  | false =>
   by_cases hw0 : x.wh (ix k) = 0
   ·by_cases h0 : x.m (ix k) = 0
    ·exact qSSw00 (N := []) h hv hA hB fA htw hw0 h0
    ·exact qSSw10 (N := []) h hv hA hB fA htw hw0 h0
   ·by_cases hw1 : x.wh (ix k) = 1
    ·exact qSSs0 (N := []) h hv hA hB fA htw hw0 hw1
    ·exact qSSc0 (N := []) h hv hA hB fA htw hw0 hw1
  | true =>
   by_cases hw0 : x.wh (ix k) = 0
   ·by_cases h0 : x.m (ix k) = 0
    ·exact qSSw01 (N := []) h hv hA hB fA htw hw0 h0
    ·exact qSSw11 (N := []) h hv hA hB fA htw hw0 h0
   ·by_cases hw1 : x.wh (ix k) = 1
    ·exact qSSs1 (N := []) h hv hA hB fA htw hw0 hw1
    ·exact qSSc1 (N := []) h hv hA hB fA htw hw0 hw1
theorem exitX {tE : List Value} {gE : Nat -> Option Ob} {x : Acts} {n c : Nat} {t : St} (g : Good x n c n t) : ∃ tz, Good x n c n tz /\ ∀ rd, Step Try.prog rd (sE tE gE) lb t (fun e s => e = .exit 4 /\ s = tz) := by
 obtain ⟨A, B, M, N, v, hv, hA, hB, g⟩ := g
 rcases g with ⟨rfl, rfl, rfl⟩ | ⟨fA, rfl, rfl⟩ | ⟨rfl, fB, rfl⟩ | ⟨fA, fB, rfl⟩ | ⟨fA, rfl, rfl⟩
 ·exact ⟨_, gEE (Vx_dead hv) hA hB, fun rd => sxEE rd hv⟩
 ·exact ⟨_, gRE (Vx_dead hv) hA fA hB, fun rd => sxRE rd hv⟩
 ·exact ⟨_, gER (Vx_dead hv) hA hB fB, fun rd => sxER rd hv⟩
 ·exact ⟨_, gRR (Vx_dead hv) hA fA hB fB, fun rd => sxRR rd hv⟩
 ·exact ⟨_, gSS (Vx_dead hv) hA fA hB, fun rd => sxSS rd hv⟩
theorem rounds {tE : List Value} {gE : Nat -> Option Ob} {x : Acts} {n c : Nat} {q0 : St} (g0 : Good x n c 0 q0) (K : Nat) (h : ∀ k, k < K -> At x n k) : ∃ q : Nat -> St, q 0 = q0 /\ (∀ k, k <= K -> Good x n c k (q k)) /\ ∀ k, k < K -> ∀ rd, Step Try.prog rd (sE tE gE) lb (q k) (fun e s => e = .normal /\ s = q (k + 1)) := by
 induction K with
 | zero => exact ⟨fun _ => q0, rfl, fun k hk => (by obtain rfl : k = 0 := (by omega); exact g0), fun k hk => (by omega)⟩
 | succ K ih =>
  obtain ⟨q, h0, h1, h2⟩ := ih fun k hk => h k (by omega)
  obtain ⟨tz, g1, g2⟩ := round (h K (by omega)) (h1 K (Nat.le_refl _))
  refine ⟨fun i => if i <= K then q i else tz, (by show (if 0 <= K then q 0 else tz) = _; rw [if_pos (Nat.zero_le _)]; exact h0), fun k hk => ?_, fun k hk rd => ?_⟩
  ·by_cases e : k <= K
   ·simp only [if_pos e]; exact h1 k e
   ·obtain rfl : k = K + 1 := by omega
    simp only [if_neg e]; exact g1
  ·by_cases e : k = K
   ·subst e
    simp only [if_pos (Nat.le_refl k), if_neg (show ¬ k + 1 <= k by omega)]; exact g2 rd
   ·simp only [if_pos (show k <= K by omega), if_pos (show k + 1 <= K by omega)]; exact h2 k (by omega) rd
theorem loopG {tE : List Value} {gE : Nat -> Option Ob} {x : Acts} {n c : Nat} {q0 : St} (g0 : Good x n c 0 q0) (hst : ∀ (rd : Option Nat) (Q : Exit -> St -> Prop), Step Try.prog rd (sE tE gE) lb q0 Q -> Step Try.prog rd (sE tE gE) lb (sE tE gE) Q) (K : Nat) (h : ∀ k, k < K -> At x n k) (e : Exit) (hne : e ≠ .normal) (T : St -> Prop) (hend : ∀ t, Good x n c K t -> ∃ tz, T tz /\ ∀ rd, Step Try.prog rd (sE tE gE) lb t (fun e' s => e' = e /\ s = tz)) :
  ∃ tz, T tz /\ ∀ rd, CodeOk Try.prog rd (.loop lb) (sE tE gE) e tz := by
 obtain ⟨q, h0, h1, h2⟩ := rounds (c := c) g0 K h
 obtain ⟨tz, g1, g2⟩ := hend (q K) (h1 K (Nat.le_refl _))
 refine ⟨tz, g1, fun rd => CodeOk.of_step (Step.loop (fun g t => (g = K + 1 /\ t = sE tE gE) ∨ ∃ j, 1 <= j /\ j <= K /\ g = K - j /\ t = q j) ?_ (K + 1) _ (.inl ⟨rfl, rfl⟩))⟩
 have key : ∀ j, j <= K -> Step Try.prog rd (sE tE gE) lb (q j) (fun e' s' => (e' = .normal /\ ∃ j', j' = j + 1 /\ j' <= K /\ s' = q j') ∨ (e' ≠ .normal /\ e' = e /\ s' = tz)) := fun j hj => by
  by_cases hjK : j = K
  ·subst hjK
   refine (g2 rd).mono ?_
   rintro e' s ⟨rfl, rfl⟩
   exact .inr ⟨hne, rfl, rfl⟩
  ·refine (h2 j (by omega) rd).mono ?_
   rintro e' s ⟨rfl, rfl⟩
   exact .inl ⟨rfl, j + 1, rfl, by omega, rfl⟩
 rintro g t (⟨rfl, rfl⟩ | ⟨j, j1, j2, rfl, rfl⟩)
 ·refine hst rd _ ?_
  rw [← h0]
  refine (key 0 (Nat.zero_le _)).mono ?_
  rintro e' s (⟨rfl, j', rfl, hj, rfl⟩ | ⟨a, rfl, rfl⟩)
  ·exact .inl ⟨rfl, K - 1, by omega, .inr ⟨0 + 1, by omega, hj, by omega, rfl⟩⟩
  ·exact .inr ⟨a, rfl, rfl⟩
 ·refine (key j j2).mono ?_
  rintro e' s (⟨rfl, j', rfl, hj, rfl⟩ | ⟨a, rfl, rfl⟩)
  ·exact .inl ⟨rfl, K - (j + 1), by omega, .inr ⟨j + 1, by omega, hj, rfl, rfl⟩⟩
  ·exact .inr ⟨a, rfl, rfl⟩
theorem loopX {tE : List Value} {gE : Nat -> Option Ob} {x : Acts} {n c : Nat} {q0 : St} (g0 : Good x n c 0 q0) (hst : ∀ (rd : Option Nat) (Q : Exit -> St -> Prop), Step Try.prog rd (sE tE gE) lb q0 Q -> Step Try.prog rd (sE tE gE) lb (sE tE gE) Q) (ox : x.Ok n) (hn : n <= 20) (hm : ∀ i, i < n -> x.wh i = 0 -> x.m i <= 200) : ∃ tz, Good x n c n tz /\ ∀ rd, CodeOk Try.prog rd (.loop lb) (sE tE gE) (.exit 4) tz :=
 loopG g0 hst n (fun k hk => At.of ox hk hn (hm k hk)) _ (by intro h; cases h) (Good x n c n) fun t g => exitX g
def Wy (i : Nat) : Bool := Nat.beq i 2 || Nat.beq i 9 || (Nat.ble 11 i && Nat.ble i 13) || (Nat.ble 16 i && Nat.ble i 19) || (Nat.ble 91 i && Nat.ble i 94) || (Nat.ble 97 i && Nat.ble i 99) || (Nat.ble 101 i && Nat.ble i 104) || (Nat.ble 126 i && Nat.ble i 132)
def Vy (v : VF) : VF := fun i => match Nat.beq i 100 with
 | true => .agg #[junk, junk, junk]
 | false => match Wy i with
  | true => junk
  | false => v i
def By (i : Nat) : Bool := (Nat.beq i 6 || Nat.beq i 100) || Wy i
theorem Vy_dead {v : VF} (h : ∀ i, DeadV (v i)) (i : Nat) : DeadV (Vy v i) := by
 unfold Vy
 split
 ·exact ⟨rfl, fun _ => rfl, fun _ => rfl⟩
 ·split
  ·exact DeadV.junk
  ·exact h i
def tmY (v : VF) : List Value := (vs v 0 6 (.bool true :: vs v 7 254 []))
theorem tmY_dead {v : VF} {B : Nat -> Bool} (h : ∀ i, DeadV (v i)) (hB : B 6 = true) : deadT B 0 (tmY v) :=
 deadT_vs h 6 (⟨fun e => absurd e (by rw [hB]; decide), deadT_vs h 254 (trivial)⟩)
def hY (x : Acts) (n : Nat) : Nat -> Option Ob := fun i => match i with
 | 0 => some (.fam x.F)
 | 1 => some (.cells (.rows n 3 x.row) 0)
 | _ => none
theorem hY_ok (x : Acts) (n : Nat) : Go.Cln.RowsIn (hY x n) := by
 intro b n' w' g t h
 unfold hY at h
 split at h
 ·cases h
 ·cases h; exact xrow_ok x
 ·cases h
def sY (x : Acts) (n : Nat) (v : VF) : St := ⟨tmY v, [], Tr.rebuild (hY x n) 113, 113, 2, [], fun _ => false, True, []⟩
theorem yEE0 (x : Acts) (n c k : Nat) (A B : Sd) (v : VF) (rd : Option Nat) : goT (KT x ha.kb hz.AB hq.TT0 hq.tgN) (st HEE x n c k A B v) rd (T :: T :: F :: T :: F :: T :: T :: []) By (sY x n (Vy v)) [] = some (.ret, (((((((True /\ decide (nI k < nI n) = true) /\ (0 <= nI k /\ nI k < nI n)) /\ ((0 + k * 3) % 3 = 0 /\ (0 + k * 3) / 3 < n)) /\ x.tw (ix k) = false) /\ (x.wh (ix k) == 0) = true) /\ decide (nI (x.m (ix k)) > 200) = true) /\ True), seenAsT By (sY x n (Vy v)) [] 114) := by kernel_rfl
theorem syEE0 {tE : List Value} {gE : Nat -> Option Ob} {x : Acts} {n c k : Nat} {A B : Sd} {v : VF} (rd : Option Nat) (hv : ∀ i, DeadV (v i)) (hk : k < n) (htw : x.tw (ix k) = false) (hw0 : x.wh (ix k) = 0) (hm : 200 < x.m (ix k)) : Step Try.prog rd (sE tE gE) lb (st HEE x n c k A B v) (fun e t => e = .ret /\ t = sY x n (Vy v)) :=
 Step.stdT (s0 := sE tE gE) sw.pg (KT_ok x ha.kb hz.AB hq.TT0 hq.tgN) (B := By) (g := hY x n) (yEE0 x n c k A B v rd) (by refine ⟨⟨⟨⟨⟨⟨⟨trivial, ?_⟩, ?_⟩, ?_⟩, htw⟩, (w0t hw0)⟩, ?_⟩, trivial⟩ <;> first | omega | simp [nI, mostBytes] <;> omega) (show 107 <= 113 by decide) (tmY_dead (Vy_dead hv) rfl) (hY_ok x n) rfl (by kernel_rfl)
theorem yEE1 (x : Acts) (n c k : Nat) (A B : Sd) (v : VF) (rd : Option Nat) : goT (KT x ha.kb hz.AB hq.TT0 hq.tgN) (st HEE x n c k A B v) rd (T :: T :: F :: ty 4 []) By (sY x n (Vy v)) [] = some (.ret, (((((((True /\ decide (nI k < nI n) = true) /\ (0 <= nI k /\ nI k < nI n)) /\ ((0 + k * 3) % 3 = 0 /\ (0 + k * 3) / 3 < n)) /\ x.tw (ix k) = true) /\ (x.wh (ix k) == 0) = true) /\ decide (nI (x.m (ix k)) > 200) = true) /\ True), seenAsT By (sY x n (Vy v)) [] 114) := by kernel_rfl
theorem syEE1 {tE : List Value} {gE : Nat -> Option Ob} {x : Acts} {n c k : Nat} {A B : Sd} {v : VF} (rd : Option Nat) (hv : ∀ i, DeadV (v i)) (hk : k < n) (htw : x.tw (ix k) = true) (hw0 : x.wh (ix k) = 0) (hm : 200 < x.m (ix k)) : Step Try.prog rd (sE tE gE) lb (st HEE x n c k A B v) (fun e t => e = .ret /\ t = sY x n (Vy v)) :=
 Step.stdT (s0 := sE tE gE) sw.pg (KT_ok x ha.kb hz.AB hq.TT0 hq.tgN) (B := By) (g := hY x n) (yEE1 x n c k A B v rd) (by refine ⟨⟨⟨⟨⟨⟨⟨trivial, ?_⟩, ?_⟩, ?_⟩, htw⟩, (w0t hw0)⟩, ?_⟩, trivial⟩ <;> first | omega | simp [nI, mostBytes] <;> omega) (show 107 <= 113 by decide) (tmY_dead (Vy_dead hv) rfl) (hY_ok x n) rfl (by kernel_rfl)
theorem yRE0 (x : Acts) (n c k : Nat) (A B : Sd) (v : VF) (rd : Option Nat) : goT (KT x ha.kb hz.AB hq.TT0 hq.tgN) (st HRE x n c k A B v) rd (T :: T :: F :: T :: F :: T :: T :: []) By (sY x n (Vy v)) [] = some (.ret, (((((((True /\ decide (nI k < nI n) = true) /\ (0 <= nI k /\ nI k < nI n)) /\ ((0 + k * 3) % 3 = 0 /\ (0 + k * 3) / 3 < n)) /\ x.tw (ix k) = false) /\ (x.wh (ix k) == 0) = true) /\ decide (nI (x.m (ix k)) > 200) = true) /\ True), seenAsT By (sY x n (Vy v)) [] 114) := by kernel_rfl
theorem syRE0 {tE : List Value} {gE : Nat -> Option Ob} {x : Acts} {n c k : Nat} {A B : Sd} {v : VF} (rd : Option Nat) (hv : ∀ i, DeadV (v i)) (hk : k < n) (htw : x.tw (ix k) = false) (hw0 : x.wh (ix k) = 0) (hm : 200 < x.m (ix k)) : Step Try.prog rd (sE tE gE) lb (st HRE x n c k A B v) (fun e t => e = .ret /\ t = sY x n (Vy v)) :=
 Step.stdT (s0 := sE tE gE) sw.pg (KT_ok x ha.kb hz.AB hq.TT0 hq.tgN) (B := By) (g := hY x n) (yRE0 x n c k A B v rd) (by refine ⟨⟨⟨⟨⟨⟨⟨trivial, ?_⟩, ?_⟩, ?_⟩, htw⟩, (w0t hw0)⟩, ?_⟩, trivial⟩ <;> first | omega | simp [nI, mostBytes] <;> omega) (show 107 <= 113 by decide) (tmY_dead (Vy_dead hv) rfl) (hY_ok x n) rfl (by kernel_rfl)
theorem yRE1 (x : Acts) (n c k : Nat) (A B : Sd) (v : VF) (rd : Option Nat) : goT (KT x ha.kb hz.AB hq.TT0 hq.tgN) (st HRE x n c k A B v) rd (T :: T :: F :: ty 4 []) By (sY x n (Vy v)) [] = some (.ret, (((((((True /\ decide (nI k < nI n) = true) /\ (0 <= nI k /\ nI k < nI n)) /\ ((0 + k * 3) % 3 = 0 /\ (0 + k * 3) / 3 < n)) /\ x.tw (ix k) = true) /\ (x.wh (ix k) == 0) = true) /\ decide (nI (x.m (ix k)) > 200) = true) /\ True), seenAsT By (sY x n (Vy v)) [] 114) := by kernel_rfl
theorem syRE1 {tE : List Value} {gE : Nat -> Option Ob} {x : Acts} {n c k : Nat} {A B : Sd} {v : VF} (rd : Option Nat) (hv : ∀ i, DeadV (v i)) (hk : k < n) (htw : x.tw (ix k) = true) (hw0 : x.wh (ix k) = 0) (hm : 200 < x.m (ix k)) : Step Try.prog rd (sE tE gE) lb (st HRE x n c k A B v) (fun e t => e = .ret /\ t = sY x n (Vy v)) :=
 Step.stdT (s0 := sE tE gE) sw.pg (KT_ok x ha.kb hz.AB hq.TT0 hq.tgN) (B := By) (g := hY x n) (yRE1 x n c k A B v rd) (by refine ⟨⟨⟨⟨⟨⟨⟨trivial, ?_⟩, ?_⟩, ?_⟩, htw⟩, (w0t hw0)⟩, ?_⟩, trivial⟩ <;> first | omega | simp [nI, mostBytes] <;> omega) (show 107 <= 113 by decide) (tmY_dead (Vy_dead hv) rfl) (hY_ok x n) rfl (by kernel_rfl)
theorem yER0 (x : Acts) (n c k : Nat) (A B : Sd) (v : VF) (rd : Option Nat) : goT (KT x ha.kb hz.AB hq.TT0 hq.tgN) (st HER x n c k A B v) rd (T :: T :: F :: T :: F :: T :: T :: []) By (sY x n (Vy v)) [] = some (.ret, (((((((True /\ decide (nI k < nI n) = true) /\ (0 <= nI k /\ nI k < nI n)) /\ ((0 + k * 3) % 3 = 0 /\ (0 + k * 3) / 3 < n)) /\ x.tw (ix k) = false) /\ (x.wh (ix k) == 0) = true) /\ decide (nI (x.m (ix k)) > 200) = true) /\ True), seenAsT By (sY x n (Vy v)) [] 114) := by kernel_rfl
theorem syER0 {tE : List Value} {gE : Nat -> Option Ob} {x : Acts} {n c k : Nat} {A B : Sd} {v : VF} (rd : Option Nat) (hv : ∀ i, DeadV (v i)) (hk : k < n) (htw : x.tw (ix k) = false) (hw0 : x.wh (ix k) = 0) (hm : 200 < x.m (ix k)) : Step Try.prog rd (sE tE gE) lb (st HER x n c k A B v) (fun e t => e = .ret /\ t = sY x n (Vy v)) :=
 Step.stdT (s0 := sE tE gE) sw.pg (KT_ok x ha.kb hz.AB hq.TT0 hq.tgN) (B := By) (g := hY x n) (yER0 x n c k A B v rd) (by refine ⟨⟨⟨⟨⟨⟨⟨trivial, ?_⟩, ?_⟩, ?_⟩, htw⟩, (w0t hw0)⟩, ?_⟩, trivial⟩ <;> first | omega | simp [nI, mostBytes] <;> omega) (show 107 <= 113 by decide) (tmY_dead (Vy_dead hv) rfl) (hY_ok x n) rfl (by kernel_rfl)
theorem yER1 (x : Acts) (n c k : Nat) (A B : Sd) (v : VF) (rd : Option Nat) : goT (KT x ha.kb hz.AB hq.TT0 hq.tgN) (st HER x n c k A B v) rd (T :: T :: F :: ty 4 []) By (sY x n (Vy v)) [] = some (.ret, (((((((True /\ decide (nI k < nI n) = true) /\ (0 <= nI k /\ nI k < nI n)) /\ ((0 + k * 3) % 3 = 0 /\ (0 + k * 3) / 3 < n)) /\ x.tw (ix k) = true) /\ (x.wh (ix k) == 0) = true) /\ decide (nI (x.m (ix k)) > 200) = true) /\ True), seenAsT By (sY x n (Vy v)) [] 114) := by kernel_rfl
theorem syER1 {tE : List Value} {gE : Nat -> Option Ob} {x : Acts} {n c k : Nat} {A B : Sd} {v : VF} (rd : Option Nat) (hv : ∀ i, DeadV (v i)) (hk : k < n) (htw : x.tw (ix k) = true) (hw0 : x.wh (ix k) = 0) (hm : 200 < x.m (ix k)) : Step Try.prog rd (sE tE gE) lb (st HER x n c k A B v) (fun e t => e = .ret /\ t = sY x n (Vy v)) :=
 Step.stdT (s0 := sE tE gE) sw.pg (KT_ok x ha.kb hz.AB hq.TT0 hq.tgN) (B := By) (g := hY x n) (yER1 x n c k A B v rd) (by refine ⟨⟨⟨⟨⟨⟨⟨trivial, ?_⟩, ?_⟩, ?_⟩, htw⟩, (w0t hw0)⟩, ?_⟩, trivial⟩ <;> first | omega | simp [nI, mostBytes] <;> omega) (show 107 <= 113 by decide) (tmY_dead (Vy_dead hv) rfl) (hY_ok x n) rfl (by kernel_rfl)
theorem yRR0 (x : Acts) (n c k : Nat) (A B : Sd) (v : VF) (rd : Option Nat) : goT (KT x ha.kb hz.AB hq.TT0 hq.tgN) (st HRR x n c k A B v) rd (T :: T :: F :: T :: F :: T :: T :: []) By (sY x n (Vy v)) [] = some (.ret, (((((((True /\ decide (nI k < nI n) = true) /\ (0 <= nI k /\ nI k < nI n)) /\ ((0 + k * 3) % 3 = 0 /\ (0 + k * 3) / 3 < n)) /\ x.tw (ix k) = false) /\ (x.wh (ix k) == 0) = true) /\ decide (nI (x.m (ix k)) > 200) = true) /\ True), seenAsT By (sY x n (Vy v)) [] 114) := by kernel_rfl
theorem syRR0 {tE : List Value} {gE : Nat -> Option Ob} {x : Acts} {n c k : Nat} {A B : Sd} {v : VF} (rd : Option Nat) (hv : ∀ i, DeadV (v i)) (hk : k < n) (htw : x.tw (ix k) = false) (hw0 : x.wh (ix k) = 0) (hm : 200 < x.m (ix k)) : Step Try.prog rd (sE tE gE) lb (st HRR x n c k A B v) (fun e t => e = .ret /\ t = sY x n (Vy v)) :=
 Step.stdT (s0 := sE tE gE) sw.pg (KT_ok x ha.kb hz.AB hq.TT0 hq.tgN) (B := By) (g := hY x n) (yRR0 x n c k A B v rd) (by refine ⟨⟨⟨⟨⟨⟨⟨trivial, ?_⟩, ?_⟩, ?_⟩, htw⟩, (w0t hw0)⟩, ?_⟩, trivial⟩ <;> first | omega | simp [nI, mostBytes] <;> omega) (show 107 <= 113 by decide) (tmY_dead (Vy_dead hv) rfl) (hY_ok x n) rfl (by kernel_rfl)
theorem yRR1 (x : Acts) (n c k : Nat) (A B : Sd) (v : VF) (rd : Option Nat) : goT (KT x ha.kb hz.AB hq.TT0 hq.tgN) (st HRR x n c k A B v) rd (T :: T :: F :: ty 4 []) By (sY x n (Vy v)) [] = some (.ret, (((((((True /\ decide (nI k < nI n) = true) /\ (0 <= nI k /\ nI k < nI n)) /\ ((0 + k * 3) % 3 = 0 /\ (0 + k * 3) / 3 < n)) /\ x.tw (ix k) = true) /\ (x.wh (ix k) == 0) = true) /\ decide (nI (x.m (ix k)) > 200) = true) /\ True), seenAsT By (sY x n (Vy v)) [] 114) := by kernel_rfl
theorem syRR1 {tE : List Value} {gE : Nat -> Option Ob} {x : Acts} {n c k : Nat} {A B : Sd} {v : VF} (rd : Option Nat) (hv : ∀ i, DeadV (v i)) (hk : k < n) (htw : x.tw (ix k) = true) (hw0 : x.wh (ix k) = 0) (hm : 200 < x.m (ix k)) : Step Try.prog rd (sE tE gE) lb (st HRR x n c k A B v) (fun e t => e = .ret /\ t = sY x n (Vy v)) :=
 Step.stdT (s0 := sE tE gE) sw.pg (KT_ok x ha.kb hz.AB hq.TT0 hq.tgN) (B := By) (g := hY x n) (yRR1 x n c k A B v rd) (by refine ⟨⟨⟨⟨⟨⟨⟨trivial, ?_⟩, ?_⟩, ?_⟩, htw⟩, (w0t hw0)⟩, ?_⟩, trivial⟩ <;> first | omega | simp [nI, mostBytes] <;> omega) (show 107 <= 113 by decide) (tmY_dead (Vy_dead hv) rfl) (hY_ok x n) rfl (by kernel_rfl)
theorem ySS0 (x : Acts) (n c k : Nat) (A B : Sd) (v : VF) (rd : Option Nat) : goT (KT x ha.kb hz.AB hq.TT0 hq.tgN) (st HSS x n c k A B v) rd (T :: T :: F :: T :: F :: T :: T :: []) By (sY x n (Vy v)) [] = some (.ret, (((((((True /\ decide (nI k < nI n) = true) /\ (0 <= nI k /\ nI k < nI n)) /\ ((0 + k * 3) % 3 = 0 /\ (0 + k * 3) / 3 < n)) /\ x.tw (ix k) = false) /\ (x.wh (ix k) == 0) = true) /\ decide (nI (x.m (ix k)) > 200) = true) /\ True), seenAsT By (sY x n (Vy v)) [] 114) := by kernel_rfl
theorem sySS0 {tE : List Value} {gE : Nat -> Option Ob} {x : Acts} {n c k : Nat} {A B : Sd} {v : VF} (rd : Option Nat) (hv : ∀ i, DeadV (v i)) (hk : k < n) (htw : x.tw (ix k) = false) (hw0 : x.wh (ix k) = 0) (hm : 200 < x.m (ix k)) : Step Try.prog rd (sE tE gE) lb (st HSS x n c k A B v) (fun e t => e = .ret /\ t = sY x n (Vy v)) :=
 Step.stdT (s0 := sE tE gE) sw.pg (KT_ok x ha.kb hz.AB hq.TT0 hq.tgN) (B := By) (g := hY x n) (ySS0 x n c k A B v rd) (by refine ⟨⟨⟨⟨⟨⟨⟨trivial, ?_⟩, ?_⟩, ?_⟩, htw⟩, (w0t hw0)⟩, ?_⟩, trivial⟩ <;> first | omega | simp [nI, mostBytes] <;> omega) (show 107 <= 113 by decide) (tmY_dead (Vy_dead hv) rfl) (hY_ok x n) rfl (by kernel_rfl)
theorem ySS1 (x : Acts) (n c k : Nat) (A B : Sd) (v : VF) (rd : Option Nat) : goT (KT x ha.kb hz.AB hq.TT0 hq.tgN) (st HSS x n c k A B v) rd (T :: T :: F :: ty 4 []) By (sY x n (Vy v)) [] = some (.ret, (((((((True /\ decide (nI k < nI n) = true) /\ (0 <= nI k /\ nI k < nI n)) /\ ((0 + k * 3) % 3 = 0 /\ (0 + k * 3) / 3 < n)) /\ x.tw (ix k) = true) /\ (x.wh (ix k) == 0) = true) /\ decide (nI (x.m (ix k)) > 200) = true) /\ True), seenAsT By (sY x n (Vy v)) [] 114) := by kernel_rfl
theorem sySS1 {tE : List Value} {gE : Nat -> Option Ob} {x : Acts} {n c k : Nat} {A B : Sd} {v : VF} (rd : Option Nat) (hv : ∀ i, DeadV (v i)) (hk : k < n) (htw : x.tw (ix k) = true) (hw0 : x.wh (ix k) = 0) (hm : 200 < x.m (ix k)) : Step Try.prog rd (sE tE gE) lb (st HSS x n c k A B v) (fun e t => e = .ret /\ t = sY x n (Vy v)) :=
 Step.stdT (s0 := sE tE gE) sw.pg (KT_ok x ha.kb hz.AB hq.TT0 hq.tgN) (B := By) (g := hY x n) (ySS1 x n c k A B v rd) (by refine ⟨⟨⟨⟨⟨⟨⟨trivial, ?_⟩, ?_⟩, ?_⟩, htw⟩, (w0t hw0)⟩, ?_⟩, trivial⟩ <;> first | omega | simp [nI, mostBytes] <;> omega) (show 107 <= 113 by decide) (tmY_dead (Vy_dead hv) rfl) (hY_ok x n) rfl (by kernel_rfl)
theorem longX {tE : List Value} {gE : Nat -> Option Ob} {x : Acts} {n c k : Nat} {t : St} (hk : k < n) (hw0 : x.wh (ix k) = 0) (hm : 200 < x.m (ix k)) (g : Good x n c k t) : ∃ v, ∀ rd, Step Try.prog rd (sE tE gE) lb t (fun e s => e = .ret /\ s = sY x n v) := by
 obtain ⟨A, B, M, N, v, hv, hA, hB, g⟩ := g
 refine ⟨Vy v, fun rd => ?_⟩
 rcases g with ⟨rfl, rfl, rfl⟩ | ⟨fA, rfl, rfl⟩ | ⟨rfl, fB, rfl⟩ | ⟨fA, fB, rfl⟩ | ⟨fA, rfl, rfl⟩ <;> cases htw : x.tw (ix k)
 ·exact syEE0 rd hv hk htw hw0 hm
 ·exact syEE1 rd hv hk htw hw0 hm
 ·exact syRE0 rd hv hk htw hw0 hm
 ·exact syRE1 rd hv hk htw hw0 hm
 ·exact syER0 rd hv hk htw hw0 hm
 ·exact syER1 rd hv hk htw hw0 hm
 ·exact syRR0 rd hv hk htw hw0 hm
 ·exact syRR1 rd hv hk htw hw0 hm
 ·exact sySS0 rd hv hk htw hw0 hm
 ·exact sySS1 rd hv hk htw hw0 hm
theorem loopY {tE : List Value} {gE : Nat -> Option Ob} {x : Acts} {n c k : Nat} {q0 : St} (g0 : Good x n c 0 q0) (hst : ∀ (rd : Option Nat) (Q : Exit -> St -> Prop), Step Try.prog rd (sE tE gE) lb q0 Q -> Step Try.prog rd (sE tE gE) lb (sE tE gE) Q) (ox : x.Ok n) (hn : n <= 20) (hk : k < n) (hm : ∀ i, i < k -> x.wh i = 0 -> x.m i <= 200) (hw : x.wh k = 0) (hb : 200 < x.m k) : ∃ tz, (∃ v, tz = sY x n v) /\ ∀ rd, CodeOk Try.prog rd (.loop lb) (sE tE gE) .ret tz :=
 loopG g0 hst k (fun j hj => At.of ox (by omega) hn (hm j hj)) _ (by intro h; cases h) (fun t => ∃ v, t = sY x n v) fun t g => by
  obtain ⟨v, hv⟩ := longX hk (by rw [ix_eq]; exact hw) (by rw [ix_eq]; exact hb) g
  exact ⟨_, ⟨v, rfl⟩, hv⟩
end
end hs
end Go.Proofs.Ytgljibcokcgfbaa
