/- Read off the code by the clean reading. -/
import Derived.Test.YteknepfcbpoooabClnWa
set_option linter.unusedVariables false
set_option linter.unusedSimpArgs false
set_option linter.deprecated false
set_option maxRecDepth 100000
namespace Go.Proofs.Yteknepfcbpoooab
open Go.ChangeShapes Go.WideShapes Go.ChangeAt Go.RowKit Go.Cln
namespace si
open sd se se.rr
open pa (rawN)
open sp (upd)
set_option linter.unusedVariables false
noncomputable section
def WL (i : Nat) : Bool := Nat.beq i 13 || (Nat.ble 30 i && Nat.ble i 58)
def VL (v : VF) : VF := fun i => match WL i with
  | true => junk
  | false => v i
def BL (i : Nat) : Bool := ((Nat.ble 0 i && Nat.ble i 3) || (Nat.ble 8 i && Nat.ble i 12)) || WL i
theorem VL_dead {v : VF} (h : ∀ i, DeadV (v i)) (i : Nat) : DeadV (VL v i) := by
  unfold VL
  split
  · exact DeadV.junk
  · exact h i
theorem lvL (i : Nat) (h : ((Nat.ble 0 i && Nat.ble i 3) || (Nat.ble 8 i && Nat.ble i 12)) = true) : BL i = true := by
  unfold BL
  simp only [Bool.or_eq_true] at h ⊢
  exact .inl h
def WX (i : Nat) : Bool := (Nat.ble 30 i && Nat.ble i 33)
def VX (v : VF) : VF := fun i => match WX i with
  | true => junk
  | false => v i
def BX (i : Nat) : Bool := ((Nat.ble 0 i && Nat.ble i 3) || (Nat.ble 8 i && Nat.ble i 12)) || WX i
theorem VX_dead {v : VF} (h : ∀ i, DeadV (v i)) (i : Nat) : DeadV (VX v i) := by
  unfold VX
  split
  · exact DeadV.junk
  · exact h i
theorem lvX (i : Nat) (h : ((Nat.ble 0 i && Nat.ble i 3) || (Nat.ble 8 i && Nat.ble i 12)) = true) : BX i = true := by
  unfold BX
  simp only [Bool.or_eq_true] at h ⊢
  exact .inl h
def cut (x : HX) (y : Y) (k : Nat) : Int := (x.C y.Q).getD (0 + k * 1) 0
def pc (y : Y) (f to : Int) : Value := PV y.P (0 + f.toNat * 1) (to.toNat - f.toNat) (y.c - f.toNat)
def wo (x : HX) (y : Y) (f to : Int) : List Int := wx x y.P (0 + f.toNat * 1) (to.toNat - f.toNat)
def pH (x : HX) (y : Y) (k : Nat) (f to : Int) (c1 c2 : Prop) : Prop := (((((True ∧ decide (nI k < nI y.m) = true) ∧ (0 ≤ nI k ∧ nI k < nI y.m)) ∧ 0 + k * 1 < (x.C y.Q).length) ∧ c1) ∧ c2) ∧ (0 ≤ to ∧ to ≤ nI y.c ∧ 0 ≤ f ∧ f ≤ to)
def pQ (y : Y) (f to : Int) : Prop := 0 ≤ to ∧ to ≤ nI y.c ∧ 0 ≤ f ∧ f ≤ to
def w1 (x : HX) (y : Y) (t s f to : Int) : Prop := x.F = x.F ∧ 0 < to.toNat - f.toNat ∧ ask1 (wo x y f to) t s (to.toNat - f.toNat) (y.c - f.toNat)
def w0 (x : HX) (t s f to : Int) : Prop := x.F = x.F ∧ to.toNat - f.toNat = 0 ∧ (0 ≤ t ∧ t ≤ 1000000000000) ∧ 0 ≤ s ∧ s ≤ 1000000000000
def fk (k : Nat) : Prop := IntKind.i64.wrap (nI k + 1) = nI k + 1
def gr (k : Nat) : Prop := k < k + 1 ∧ (k + 1) * 24 ≤ mostBytes ∧ k + 1 ≤ mostBytes
def ts (x : HX) (y : Y) (t s f to : Int) : Int := upd t s (wo x y f to)
def ss (s f to : Int) : Int := s + nI (to.toNat - f.toNat)
def T1 : Option Bool := some true
def F1 : Option Bool := some false
def sM (x : HX) (y : Y) (t s f : Int) (k : Nat) (v : VF) : St := sS x y t s (pl k) none f k v 3
def goM (x : HX) (s : St) (o : List (Option Bool)) (u : St) (σ : List Nat) (m : Nat) : Option (Exit × Prop × Seen × Option Ob) := (goL x s o).map (fun r => (r.1, r.2.obl, seenInT BL r.2 u σ, r.2.heap.get m))
def goX (x : HX) (s : St) (o : List (Option Bool)) (u : St) (σ : List Nat) : Option (Exit × Prop × Seen) := (goL x s o).map (fun r => (r.1, r.2.obl, seenInT BX r.2 u σ))
variable (x : HX) (y : Y) (t s f : Int) (k : Nat) (v : VF) (g : Nat → Value)
theorem kFttt : goM x (sF x y t s g f k v) [T1, T1, T1, T1, T1, T1, F1, none, F1, none, T1, T1, T1, T1] (sM x y (ts x y t s f (cut x y k)) (ss s f (cut x y k)) (cut x y k) (k + 1) (VL v)) [0, 1, 4] 4 = some (.normal, ((((pH x y k f (cut x y k) (decide (cut x y k < nI y.n) = true) (decide (cut x y k > f) = true) ∧ gr k) ∧ 0 + k * 1 ≤ k) ∧ pQ y f (cut x y k)) ∧ w1 x y t s f (cut x y k)) ∧ fk k, seenAsT BL (sM x y (ts x y t s f (cut x y k)) (ss s f (cut x y k)) (cut x y k) (k + 1) (VL v)) [0, 1, 4] 18, some (.cells (.lit (famList g 0 (k * 1) ++ [pc y f (cut x y k)])) 23)) := by kernel_rfl
theorem kNttt : goM x (sN x y t s f 0 v) [T1, T1, T1, T1, T1, T1, T1, T1, T1] (sM x y (ts x y t s f (cut x y 0)) (ss s f (cut x y 0)) (cut x y 0) (0 + 1) (VL v)) [0, 1, 3] 3 = some (.normal, (((pH x y 0 f (cut x y 0) (decide (cut x y 0 < nI y.n) = true) (decide (cut x y 0 > f) = true) ∧ pQ y f (cut x y 0)) ∧ w1 x y t s f (cut x y 0)) ∧ fk 0), seenAsT BL (sM x y (ts x y t s f (cut x y 0)) (ss s f (cut x y 0)) (cut x y 0) (0 + 1) (VL v)) [0, 1, 3] 17, some (.cells (.lit (famList g 0 (0 * 1) ++ [pc y f (cut x y 0)])) 23)) := by kernel_rfl
theorem kFttf : goM x (sF x y t s g f k v) [T1, T1, T1, T1, T1, T1, F1, none, F1, none, T1, T1, F1, T1] (sM x y t s (cut x y k) (k + 1) (VL v)) [0, 1, 4] 4 = some (.normal, ((((pH x y k f (cut x y k) (decide (cut x y k < nI y.n) = true) (decide (cut x y k > f) = true) ∧ gr k) ∧ 0 + k * 1 ≤ k) ∧ pQ y f (cut x y k)) ∧ w0 x t s f (cut x y k)) ∧ fk k, seenAsT BL (sM x y t s (cut x y k) (k + 1) (VL v)) [0, 1, 4] 18, some (.cells (.lit (famList g 0 (k * 1) ++ [pc y f (cut x y k)])) 23)) := by kernel_rfl
theorem kNttf : goM x (sN x y t s f 0 v) [T1, T1, T1, T1, T1, T1, T1, F1, T1] (sM x y t s (cut x y 0) (0 + 1) (VL v)) [0, 1, 3] 3 = some (.normal, (((pH x y 0 f (cut x y 0) (decide (cut x y 0 < nI y.n) = true) (decide (cut x y 0 > f) = true) ∧ pQ y f (cut x y 0)) ∧ w0 x t s f (cut x y 0)) ∧ fk 0), seenAsT BL (sM x y t s (cut x y 0) (0 + 1) (VL v)) [0, 1, 3] 17, some (.cells (.lit (famList g 0 (0 * 1) ++ [pc y f (cut x y 0)])) 23)) := by kernel_rfl
theorem kFftt : goM x (sF x y t s g f k v) [T1, T1, T1, F1, T1, T1, F1, none, F1, none, T1, T1, T1, T1] (sM x y (ts x y t s f (nI y.n)) (ss s f (nI y.n)) (nI y.n) (k + 1) (VL v)) [0, 1, 4] 4 = some (.normal, ((((pH x y k f (nI y.n) (decide (cut x y k < nI y.n) = false) (decide (nI y.n > f) = true) ∧ gr k) ∧ 0 + k * 1 ≤ k) ∧ pQ y f (nI y.n)) ∧ w1 x y t s f (nI y.n)) ∧ fk k, seenAsT BL (sM x y (ts x y t s f (nI y.n)) (ss s f (nI y.n)) (nI y.n) (k + 1) (VL v)) [0, 1, 4] 18, some (.cells (.lit (famList g 0 (k * 1) ++ [pc y f (nI y.n)])) 23)) := by kernel_rfl
theorem kNftt : goM x (sN x y t s f 0 v) [T1, T1, T1, F1, T1, T1, T1, T1, T1] (sM x y (ts x y t s f (nI y.n)) (ss s f (nI y.n)) (nI y.n) (0 + 1) (VL v)) [0, 1, 3] 3 = some (.normal, (((pH x y 0 f (nI y.n) (decide (cut x y 0 < nI y.n) = false) (decide (nI y.n > f) = true) ∧ pQ y f (nI y.n)) ∧ w1 x y t s f (nI y.n)) ∧ fk 0), seenAsT BL (sM x y (ts x y t s f (nI y.n)) (ss s f (nI y.n)) (nI y.n) (0 + 1) (VL v)) [0, 1, 3] 17, some (.cells (.lit (famList g 0 (0 * 1) ++ [pc y f (nI y.n)])) 23)) := by kernel_rfl
theorem kFftf : goM x (sF x y t s g f k v) [T1, T1, T1, F1, T1, T1, F1, none, F1, none, T1, T1, F1, T1] (sM x y t s (nI y.n) (k + 1) (VL v)) [0, 1, 4] 4 = some (.normal, ((((pH x y k f (nI y.n) (decide (cut x y k < nI y.n) = false) (decide (nI y.n > f) = true) ∧ gr k) ∧ 0 + k * 1 ≤ k) ∧ pQ y f (nI y.n)) ∧ w0 x t s f (nI y.n)) ∧ fk k, seenAsT BL (sM x y t s (nI y.n) (k + 1) (VL v)) [0, 1, 4] 18, some (.cells (.lit (famList g 0 (k * 1) ++ [pc y f (nI y.n)])) 23)) := by kernel_rfl
theorem kNftf : goM x (sN x y t s f 0 v) [T1, T1, T1, F1, T1, T1, T1, F1, T1] (sM x y t s (nI y.n) (0 + 1) (VL v)) [0, 1, 3] 3 = some (.normal, (((pH x y 0 f (nI y.n) (decide (cut x y 0 < nI y.n) = false) (decide (nI y.n > f) = true) ∧ pQ y f (nI y.n)) ∧ w0 x t s f (nI y.n)) ∧ fk 0), seenAsT BL (sM x y t s (nI y.n) (0 + 1) (VL v)) [0, 1, 3] 17, some (.cells (.lit (famList g 0 (0 * 1) ++ [pc y f (nI y.n)])) 23)) := by kernel_rfl
theorem kFtff : goM x (sF x y t s g f k v) [T1, T1, T1, T1, F1, T1, F1, none, F1, none, T1, T1, F1, T1] (sM x y t s f (k + 1) (VL v)) [0, 1, 4] 4 = some (.normal, ((((pH x y k f f (decide (cut x y k < nI y.n) = true) (decide (cut x y k > f) = false) ∧ gr k) ∧ 0 + k * 1 ≤ k) ∧ pQ y f f) ∧ w0 x t s f f) ∧ fk k, seenAsT BL (sM x y t s f (k + 1) (VL v)) [0, 1, 4] 18, some (.cells (.lit (famList g 0 (k * 1) ++ [pc y f f])) 23)) := by kernel_rfl
theorem kNtff : goM x (sN x y t s f 0 v) [T1, T1, T1, T1, F1, T1, T1, F1, T1] (sM x y t s f (0 + 1) (VL v)) [0, 1, 3] 3 = some (.normal, (((pH x y 0 f f (decide (cut x y 0 < nI y.n) = true) (decide (cut x y 0 > f) = false) ∧ pQ y f f) ∧ w0 x t s f f) ∧ fk 0), seenAsT BL (sM x y t s f (0 + 1) (VL v)) [0, 1, 3] 17, some (.cells (.lit (famList g 0 (0 * 1) ++ [pc y f f])) 23)) := by kernel_rfl
theorem kFfff : goM x (sF x y t s g f k v) [T1, T1, T1, F1, F1, T1, F1, none, F1, none, T1, T1, F1, T1] (sM x y t s f (k + 1) (VL v)) [0, 1, 4] 4 = some (.normal, ((((pH x y k f f (decide (cut x y k < nI y.n) = false) (decide (nI y.n > f) = false) ∧ gr k) ∧ 0 + k * 1 ≤ k) ∧ pQ y f f) ∧ w0 x t s f f) ∧ fk k, seenAsT BL (sM x y t s f (k + 1) (VL v)) [0, 1, 4] 18, some (.cells (.lit (famList g 0 (k * 1) ++ [pc y f f])) 23)) := by kernel_rfl
theorem kNfff : goM x (sN x y t s f 0 v) [T1, T1, T1, F1, F1, T1, T1, F1, T1] (sM x y t s f (0 + 1) (VL v)) [0, 1, 3] 3 = some (.normal, (((pH x y 0 f f (decide (cut x y 0 < nI y.n) = false) (decide (nI y.n > f) = false) ∧ pQ y f f) ∧ w0 x t s f f) ∧ fk 0), seenAsT BL (sM x y t s f (0 + 1) (VL v)) [0, 1, 3] 17, some (.cells (.lit (famList g 0 (0 * 1) ++ [pc y f f])) 23)) := by kernel_rfl
theorem xF : (goL x (sF x y t s g f k v) [F1]).map (fun r => (r.1, r.2.obl, seenInT BX r.2 (sM x y t s f k (VX v)) [0, 1, 2], r.2.heap.get 2)) = some (.exit 0, True ∧ decide (nI k < nI y.m) = false, seenAsT BX (sM x y t s f k (VX v)) [0, 1, 2] 3, some (.cells (.fam k g) 23)) := by kernel_rfl
theorem xN : goX x (sN x y t s f 0 v) [F1] (sN x y t s f 0 (VX v)) [0, 1] = some (.exit 0, True ∧ decide (nI 0 < nI y.m) = false, seenAsT BX (sN x y t s f 0 (VX v)) [0, 1] 2) := by kernel_rfl
def s0 : St := s00 x y.P y.n y.c y.Q y.m y.d y.a y.w 180
theorem okM4 : picOkT BL (s0 x y) (sM x y t s f k (VL v)) [0, 1, 4] = true := by kernel_rfl
theorem okM3 : picOkT BL (s0 x y) (sM x y t s f k (VL v)) [0, 1, 3] = true := by kernel_rfl
theorem okF : picOkT BX (s0 x y) (sM x y t s f k (VX v)) [0, 1, 2] = true := by kernel_rfl
theorem okN : picOkT BX (s0 x y) (sN x y t s f 0 (VX v)) [0, 1] = true := by kernel_rfl
end
end si
end Go.Proofs.Yteknepfcbpoooab
namespace Go.Proofs.Yteknepfcbpoooab
open Go.ChangeShapes Go.WideShapes Go.ChangeAt Go.RowKit Go.Cln
namespace si
open sd se se.rr
open pa (rawN)
open sp (upd)
set_option linter.unusedVariables false
noncomputable section
theorem wsum_app : ∀ (l r : List Int), wsum (l ++ r) = wsum l + wsum (if (l.length : Int) % 2 = 0 then r else 0 :: r)
  | [], r => by simp [wsum]
  | [a], r => by
    cases r with
    | nil => simp [wsum]
    | cons b r => simp [wsum]; omega
  | a :: b :: l, r => by
    have := wsum_app l r
    have e : (((a :: b :: l).length : Nat) : Int) % 2 = (l.length : Int) % 2 := by simp only [List.length_cons]; omega
    rw [e]
    simp only [List.cons_append, wsum, this]; omega
def wk (x : HX) (y : Y) : List Int := wx x y.P 0 y.n
structure By (x : HX) (y : Y) : Prop where
  len : (wk x y).length = y.n
  room : y.n ≤ y.c
  byt : Byt (wk x y)
  few : y.n ≤ 500
  cuts : y.m ≤ (x.C y.Q).length
  few2 : y.m ≤ 20
def toK (x : HX) (y : Y) (f : Int) (k : Nat) : Int := if cut x y k < nI y.n then (if cut x y k > f then cut x y k else f) else (if nI y.n > f then nI y.n else f)
def aK (x : HX) (y : Y) : Nat → Int
  | 0 => 0
  | k + 1 => toK x y (aK x y k) k
theorem toK_le {x : HX} {y : Y} {f : Int} (k : Nat) (h : f ≤ nI y.n) : f ≤ toK x y f k ∧ toK x y f k ≤ nI y.n := by
  unfold toK
  split <;> split <;> omega
theorem aK_le (x : HX) (y : Y) : ∀ k, 0 ≤ aK x y k ∧ aK x y k ≤ nI y.n
  | 0 => ⟨Int.le_refl 0, Int.natCast_nonneg _⟩
  | k + 1 => by
    have h := aK_le x y k
    have h2 := toK_le (x := x) k h.2
    exact ⟨by show 0 ≤ toK _ _ _ _; omega, h2.2⟩
theorem D_len {x : HX} {y : Y} (h : By x y) : y.n ≤ (x.D y.P).length := by
  have := h.len
  unfold wk wx at this
  rw [List.length_take, List.length_drop] at this; omega
theorem wo_len {x : HX} {y : Y} (h : By x y) {a to : Int} (h1 : a ≤ to) (h2 : to ≤ nI y.n) : (wo x y a to).length = to.toNat - a.toNat := by
  have := D_len h
  unfold wo wx
  rw [List.length_take, List.length_drop]
  unfold nI at h2
  omega
theorem wo_take {x : HX} {y : Y} (h : By x y) {a to : Int} (h0 : 0 ≤ a) (h1 : a ≤ to) (h2 : to ≤ nI y.n) : (wk x y).take a.toNat ++ wo x y a to = (wk x y).take to.toNat := by
  have := D_len h
  unfold wo wk wx
  unfold nI at h2
  rw [Nat.zero_add, Nat.mul_one, List.drop_zero]
  have e : to.toNat = a.toNat + (to.toNat - a.toNat) := by omega
  rw [List.take_take, List.take_take, Nat.min_eq_left (by omega), Nat.min_eq_left (by omega)]
  conv => rhs; rw [e, List.take_add]
theorem wo_byt {x : HX} {y : Y} (h : By x y) {a to : Int} (h0 : 0 ≤ a) (h1 : a ≤ to) (h2 : to ≤ nI y.n) : Byt (wo x y a to) := fun z hz => by
  refine h.byt z (List.mem_of_mem_take (i := to.toNat) ?_)
  rw [← wo_take h h0 h1 h2]
  exact List.mem_append_right _ hz
theorem tk_len {x : HX} {y : Y} (h : By x y) {a : Int} (h0 : 0 ≤ a) (h2 : a ≤ nI y.n) : (((wk x y).take a.toNat).length : Int) = a := by
  rw [List.length_take, h.len]; unfold nI at h2; omega
theorem tk_byt {x : HX} {y : Y} (h : By x y) (i : Nat) : Byt ((wk x y).take i) := fun z hz => h.byt z (List.mem_of_mem_take hz)
def tK (x : HX) (y : Y) (a : Int) : Int := wsum ((wk x y).take a.toNat)
theorem tK_b {x : HX} {y : Y} (h : By x y) {a : Int} (h0 : 0 ≤ a) (h2 : a ≤ nI y.n) : 0 ≤ tK x y a ∧ tK x y a ≤ 1000000000000 := by
  have q1 := wsum_bound _ (tk_byt h a.toNat)
  have q2 := tk_len h h0 h2
  have q3 := h.few
  unfold tK
  unfold nI at h2
  omega
theorem tK_next {x : HX} {y : Y} (h : By x y) {a to : Int} (h0 : 0 ≤ a) (h1 : a ≤ to) (h2 : to ≤ nI y.n) : ts x y (tK x y a) a a to = tK x y to ∧ ss a a to = to := by
  refine ⟨?_, ?_⟩
  · unfold ts sp.upd tK
    rw [← wo_take h h0 h1 h2, wsum_app, tk_len h h0 (by omega)]
  · unfold ss nI; omega
theorem w1_ok {x : HX} {y : Y} (h : By x y) {a to : Int} (h0 : 0 ≤ a) (h1 : a < to) (h2 : to ≤ nI y.n) : w1 x y (tK x y a) a a to := by
  have q1 := wo_len h (Int.le_of_lt h1) h2
  have q2 := tK_b h h0 (by omega)
  have q3 := h.few
  have q4 := h.room
  unfold nI at h2
  exact ⟨rfl, by omega, wo_byt h h0 (Int.le_of_lt h1) h2, q1.symm, by omega, q2, by omega, by omega⟩
theorem w0_ok {x : HX} {y : Y} (h : By x y) {a : Int} (h0 : 0 ≤ a) (h2 : a ≤ nI y.n) : w0 x (tK x y a) a a a := by
  have q2 := tK_b h h0 h2
  have q3 := h.few
  unfold nI at h2
  exact ⟨rfl, Nat.sub_self _, q2, by omega, by omega⟩
theorem pQ_ok {x : HX} {y : Y} (h : By x y) {a to : Int} (h0 : 0 ≤ a) (h1 : a ≤ to) (h2 : to ≤ nI y.n) : pQ y a to := by
  have q4 := h.room
  unfold nI at h2
  unfold pQ nI
  omega
theorem pH_ok {x : HX} {y : Y} (h : By x y) {k : Nat} (hk : k < y.m) {a to : Int} {c1 c2 : Prop} (h0 : 0 ≤ a) (h1 : a ≤ to) (h2 : to ≤ nI y.n) (g1 : c1) (g2 : c2) : pH x y k a to c1 c2 := by
  have q := h.cuts
  refine ⟨⟨⟨⟨⟨⟨trivial, ?_⟩, ?_⟩, ?_⟩, g1⟩, g2⟩, pQ_ok h h0 h1 h2⟩
  · unfold nI; rw [decide_eq_true_eq]; omega
  · unfold nI; omega
  · omega
theorem fk_ok {k : Nat} (h : k ≤ 20) : fk k := by unfold fk nI; rw [IntKind.wrap_i64]; omega
theorem gr_ok {k : Nat} (h : k ≤ 20) : gr k := by unfold gr mostBytes; omega
theorem getS {x : HX} {t s : Int} {r : Option Ob} {nx : Nat} (hn : nx ≤ 1000000) (b : Nat) : (Tr.rebuild (hS x t s r) nx).get b = if b < nx then hS x t s r b else none := by
  rw [Tr.get_rebuild _ _ _ hn]
theorem ok_pc (σ : List Nat) (x : HX) (y : Y) (t s f : Int) (k : Nat) (v : VF) (a b : Int) : ren (nm σ) (pc y a b) = pc y a b ∧ okV (sM x y t s f k v) (pc y a b) = true := ⟨rfl, rfl⟩
theorem nm4 (m : Nat) (hm : m = 3 ∨ m = 4 ∨ m = 2) {x : HX} {t s : Int} (b : Nat) (o' : Ob) (hb : b ≠ 2) (h : (Tr.rebuild (hS x t s none) 3).get b = some o') : nm [0, 1, m] b ≠ m := by
  rw [getS (by decide)] at h
  split at h
  · have : b = 0 ∨ b = 1 := by omega
    rcases this with rfl | rfl
    · show (0 : Nat) ≠ m
      omega
    · show (1 : Nat) ≠ m
      omega
  · cases h
def g2 (y : Y) (g : Nat → Value) (k : Nat) (f to : Int) : Nat → Value := fun j => if j < k then g j else pc y f to
def Pcs (y : Y) (g : Nat → Value) (k : Nat) : Prop := ∀ j, j < k → ∃ a b, g j = pc y a b
theorem h3F {x : HX} {y : Y} {t s : Int} {k : Nat} {g : Nat → Value} (b : Nat) (hb : b ≠ 2) : (Tr.rebuild (hS x t s (oP k g)) 3).get b = (Tr.rebuild (hS x t s none) 3).get b := by
  rw [getS (by decide), getS (by decide)]
  by_cases h : b < 3
  · rw [if_pos h, if_pos h]
    have : b = 0 ∨ b = 1 := by omega
    rcases this with rfl | rfl <;> rfl
  · rw [if_neg h, if_neg h]
theorem stepG {x : HX} {y : Y} {S : St} {t s f to : Int} {k m n1 : Nat} {v : VF} {g : Nat → Value} {o : List (Option Bool)} {p : Prop} (hm : m = 3 ∨ m = 4) (hS1 : 1 ≤ S.next) (hv : ∀ i, DeadV (v i))
    (hr : goM x S o (sM x y t s to (k + 1) (VL v)) [0, 1, m] m = some (.normal, p, seenAsT BL (sM x y t s to (k + 1) (VL v)) [0, 1, m] n1, some (.cells (.lit (famList g 0 (k * 1) ++ [pc y f to])) 23))) (hp : p) (hg : Pcs y g k) :
    StepG Try.prog none (s0 x y) lb S fun e s' => e = .normal ∧ s' = sF x y t s (g2 y g k f to) to (k + 1) (VL v) := by
  have hk : picOkT BL (s0 x y) (sM x y t s to (k + 1) (VL v)) [0, 1, m] = true := by
    rcases hm with rfl | rfl
    · exact okM3 x y t s to (k + 1) v
    · exact okM4 x y t s to (k + 1) v
  have hr' : ((mk Try.prog (KZ x) 300).code 9 none lb { S with obl := True, orc := o }).map (fun r => (r.1, r.2.obl, seenInT BL r.2 (sM x y t s to (k + 1) (VL v)) [0, 1, m], r.2.heap.get m)) = some (.normal, p, seenAsT BL (sM x y t s to (k + 1) (VL v)) [0, 1, m] n1, some (.cells (.lit (famList g 0 (k * 1) ++ [pc y f to])) 23)) := hr
  have h5 : ObV (sM x y t s to (k + 1) (VL v)) (nm [0, 1, m]) (.cells (.lit (famList g 0 (k * 1) ++ [pc y f to])) 23) (.cells (.fam (k + 1) (g2 y g k f to)) 23) := by
    refine ObV.grown (fun j hj => if_pos hj) (if_neg (by omega)) fun j hj => ?_
    unfold g2
    by_cases h : j < k
    · obtain ⟨a, b, e⟩ := hg j h
      rw [if_pos h, e]; exact ok_pc _ x y t s to (k + 1) (VL v) a b
    · rw [if_neg h]; exact ok_pc _ x y t s to (k + 1) (VL v) f to
  have h1 : (Tr.rebuild (hS x t s (oP (k + 1) (g2 y g k f to))) 3).get 2 = some (.cells (.fam (k + 1) (g2 y g k f to)) 23) := by rw [getS (by decide)]; rfl
  have := StepG.stdM (s0 := s0 x y) (rd := none) sr.pg (KZ_ok x) (σ := [0, 1, m]) (kb := 2) hr' hp hS1 (tmS_dead (VL_dead hv) lvL) (hS_ok x t s none fun _ _ _ _ h => by cases h) rfl hk h1 (fun b hb => h3F (y := y) b hb) rfl h5 rfl (show 1 ≤ 2 by decide) (fun b o' hb h => nm4 m (by omega) b o' hb h)
  refine StepG.mono this ?_
  rintro e s' ⟨rfl, rfl⟩; exact ⟨rfl, rfl⟩
end
end si
end Go.Proofs.Yteknepfcbpoooab
namespace Go.Proofs.Yteknepfcbpoooab
open Go.ChangeShapes Go.WideShapes Go.ChangeAt Go.RowKit Go.Cln
namespace si
open sd se se.rr
open pa (rawN)
open sp (upd)
set_option linter.unusedVariables false
noncomputable section
def tmQ (v : VF) (y : Y) (pt : Value) (f : Int) : List Value := (PV y.P 0 y.n y.c :: cv y.Q y.m y.d :: .int .i64 y.a :: wU y.w :: vs v 4 4 (.bool false :: P0 1 0 :: pt :: .int .i64 f :: vs v 12 172 []))
theorem tmQ_dead {v : VF} {y : Y} {pt : Value} {f : Int} {B : Nat → Bool} (h : ∀ i, DeadV (v i)) (hB : ∀ i, ((Nat.ble 0 i && Nat.ble i 3) || (Nat.ble 8 i && Nat.ble i 11)) = true → B i = true) : deadT B 0 (tmQ v y pt f) :=
  ⟨fun e => absurd e (by rw [hB 0 rfl]; decide), ⟨fun e => absurd e (by rw [hB 1 rfl]; decide), ⟨fun e => absurd e (by rw [hB 2 rfl]; decide), ⟨fun e => absurd e (by rw [hB 3 rfl]; decide), deadT_vs h 4 (⟨fun e => absurd e (by rw [hB 8 rfl]; decide), ⟨fun e => absurd e (by rw [hB 9 rfl]; decide), ⟨fun e => absurd e (by rw [hB 10 rfl]; decide), ⟨fun e => absurd e (by rw [hB 11 rfl]; decide), deadT_vs h 172 (trivial)⟩⟩⟩⟩)⟩⟩⟩⟩
def W0 (i : Nat) : Bool := (Nat.ble 20 i && Nat.ble i 27) || Nat.beq i 29
def V0 (v : VF) : VF := fun i => match W0 i with
  | true => junk
  | false => v i
def B0 (i : Nat) : Bool := ((Nat.ble 0 i && Nat.ble i 3) || (Nat.ble 8 i && Nat.ble i 11)) || W0 i
theorem V0_dead {v : VF} (h : ∀ i, DeadV (v i)) (i : Nat) : DeadV (V0 v i) := by
  unfold V0
  split
  · exact DeadV.junk
  · exact h i
theorem lv0 (i : Nat) (h : ((Nat.ble 0 i && Nat.ble i 3) || (Nat.ble 8 i && Nat.ble i 11)) = true) : B0 i = true := by
  unfold B0
  simp only [Bool.or_eq_true] at h ⊢
  exact .inl h
def sQ (x : HX) (y : Y) (v : VF) : St := ⟨tmQ v y (.slice none 0 0) 0, [], Tr.rebuild (hS x 0 0 none) 2, 2, 1, [], fun _ => false, True, []⟩
def v00 : VF := fun _ => undef
variable (x : HX) (y : Y) (v : VF)
def pP : Prop := (True ∧ decide (nI y.n > 500) = false) ∧ decide (nI y.m > 20) = false
theorem rP : (go0 x y.P y.n y.c y.Q y.m y.d y.a y.w 180 5 [some false, none, none, none, some false]).map (fun r => (r.2, r.1.obl, seenInT B0 r.1 (sQ x y (V0 v00)) [0, 1])) = some (c5, pP y, seenAsT B0 (sQ x y (V0 v00)) [0, 1] 2) := by kernel_rfl
theorem rQ : (runRow (mk Try.prog (KZ x) 300) 9 none 1 cX { (sQ x y (V0 v00)) with obl := True, orc := [] }).map (fun r => (r.2, r.1.obl, seenInT allB r.1 (sN x y 0 0 0 0 (V0 v00)) [0, 1])) = some (.block 0 (.loop lb), True, seenAsT allB (sN x y 0 0 0 0 (V0 v00)) [0, 1] 2) := by kernel_rfl
theorem c5_eq : c5 = .seq cX c6 := by kernel_rfl
theorem okQ : picOkT B0 (s0 x y) (sQ x y (V0 v00)) [0, 1] = true := by kernel_rfl
theorem okQ2 : picOkT allB (s0 x y) (sN x y 0 0 0 0 (V0 v00)) [0, 1] = true := by kernel_rfl
theorem fn9 : (Try.prog.funcs[9]?).map (fun f => (f.body, f.results.toList, f.ntmps)) = some (some bodyC, [.tmp 8], 184) := by kernel_rfl
end
end si
end Go.Proofs.Yteknepfcbpoooab
namespace Go.Proofs.Yteknepfcbpoooab
open Go.ChangeShapes Go.WideShapes Go.ChangeAt Go.RowKit Go.Cln
namespace si
open sd se se.rr
open pa (rawN)
open sp (upd)
set_option linter.unusedVariables false
noncomputable section
def LF (y : Y) (g : Nat → Value) (k : Nat) (f : Int) : List Value := famList g 0 (k * 1) ++ [pc y f (nI y.n)]
def RL (x : HX) (y : Y) (g : Nat → Value) (k : Nat) (f : Int) : Int := rawN (catV x.D (LF y g k f))
def RB (x : HX) (y : Y) : Int := rawN (catV x.D [PV y.P 0 y.n y.c])
def cB (x : HX) (y : Y) : Prop := x.F = x.F ∧ RowsOk x.D 1000 [PV y.P 0 y.n y.c]
def b1 (x : HX) (y : Y) : Int := (x.D y.P).getD (0 + y.a.toNat * 1) 0
def b2 (x : HX) (y : Y) : Int := (x.D y.P).getD (0 + (y.a + 1).toNat * 1) 0
def was (x : HX) (y : Y) : Int := b1 x y * 256 + b2 x y
def hw (y : Y) : Int := IntKind.u16.wrap (y.w.tdiv 256)
def N1 (x : HX) (y : Y) : List Int := (wk x y).set (0 + y.a.toNat * 1) (hw y)
def N2 (x : HX) (y : Y) : List Int := (N1 x y).set (0 + (y.a + 1).toNat * 1) (y.w.tmod 256)
def NW (x : HX) (y : Y) : List Int := List.take (0 + y.n) (List.drop 0 (N2 x y))
def LY (x : HX) (y : Y) : List Int := List.take y.n (List.drop 0 (lay (wk x y) y.a.toNat))
def AA (x : HX) (y : Y) : Int := 65535 - (65535 - RB x y) + (65535 - was x y) + y.w
def bW (x : HX) (y : Y) : Prop := (y.n = 0 ∨ 0 + y.n ≤ (x.D y.P).length) ∧ 0 + 0 ≤ ([] : List Int).length ∧ (0 + y.n) * 1 ≤ mostBytes ∧ 0 + y.n ≤ mostBytes
def own (M : List Int) (n : Nat) : Prop := Byt M ∧ 0 < n ∧ M.length = n ∧ n ≤ 1000 ∧ n ≤ n
variable (x : HX) (y : Y) (t s f : Int) (k : Nat) (v : VF) (g : Nat → Value)
def goT (S : St) (o : List (Option Bool)) : Option (Exit × Prop × List Nat × Value) := ((mk Try.prog (KZ x) 300).code 9 none c6 { S with obl := True, orc := o }).map (fun r => (r.1, r.2.obl, r.2.defers, getL r.2.tmps 8))
def hdt (p : Prop) : Prop := ((((((((((((p ∧ x.F = x.F ∧ (LF y g k f).length = k + 1 ∧ k + 1 ≤ 30 ∧ RowsOk x.D 1000 (LF y g k f)) ∧ cB x y) ∧ (RL x y g k f != RB x y) = false) ∧ (0 ≤ (ts x y t s f (nI y.n)) ∧ (ts x y t s f (nI y.n)) < 18446744073709551616)) ∧ cB x y) ∧ (sc.car (ts x y t s f (nI y.n)) != RB x y) = false) ∧ cB x y) ∧ cB x y) ∧ (!((RB x y == 65535) == (RB x y == 65535))) = false) ∧ cB x y) ∧ cB x y) ∧ (IntKind.u16.wrap (65535 - RB x y) != IntKind.u16.wrap (65535 - RB x y)) = false)
def hdf (p : Prop) : Prop := ((((((((((((p ∧ x.F = x.F ∧ (LF y g k f).length = k + 1 ∧ k + 1 ≤ 30 ∧ RowsOk x.D 1000 (LF y g k f)) ∧ cB x y) ∧ (RL x y g k f != RB x y) = false) ∧ (0 ≤ t ∧ t < 18446744073709551616)) ∧ cB x y) ∧ (sc.car t != RB x y) = false) ∧ cB x y) ∧ cB x y) ∧ (!((RB x y == 65535) == (RB x y == 65535))) = false) ∧ cB x y) ∧ cB x y) ∧ (IntKind.u16.wrap (65535 - RB x y) != IntKind.u16.wrap (65535 - RB x y)) = false)
def tleq (p : Prop) : Prop := ((((((((((((((((((((((((((((((((((((p ∧ x.F = x.F ∧ 0 = 0 ∧ Byt (wk x y) ∧ y.n = (wk x y).length ∧ y.n ≤ 1000 ∧ y.n ≤ y.c ∧ okA y.n y.a) ∧ (0 ≤ y.a ∧ y.a < nI y.n)) ∧ 0 + y.a.toNat * 1 < (x.D y.P).length) ∧ IntKind.u16.wrap (b1 x y) = b1 x y) ∧ IntKind.u16.wrap (b1 x y * 256) = b1 x y * 256) ∧ IntKind.i64.wrap (y.a + 1) = y.a + 1) ∧ (0 ≤ y.a + 1 ∧ y.a + 1 < nI y.n)) ∧ 0 + (y.a + 1).toNat * 1 < (x.D y.P).length) ∧ IntKind.u16.wrap (b2 x y) = b2 x y) ∧ IntKind.u16.wrap (was x y) = was x y) ∧ decide (0 + y.n ≤ 0) = false) ∧ bW x y) ∧ IntKind.i64.wrap (y.a + 1) = y.a + 1) ∧ IntKind.u8.wrap (hw y) = hw y) ∧ IntKind.u8.wrap (y.w.tmod 256) = y.w.tmod 256) ∧ (0 ≤ y.a ∧ y.a < nI (0 + y.n))) ∧ 0 + y.a.toNat * 1 + 1 ≤ (wk x y).length) ∧ (0 ≤ y.a + 1 ∧ y.a + 1 < nI (0 + y.n))) ∧ 0 + (y.a + 1).toNat * 1 + 1 ≤ (N1 x y).length) ∧ cB x y) ∧ IntKind.u16.wrap (65535 - RB x y) = 65535 - RB x y) ∧ IntKind.u16.wrap (65535 - (65535 - RB x y)) = 65535 - (65535 - RB x y)) ∧ IntKind.u64.wrap (65535 - (65535 - RB x y)) = 65535 - (65535 - RB x y)) ∧ IntKind.u16.wrap (65535 - was x y) = 65535 - was x y) ∧ IntKind.u64.wrap (65535 - was x y) = 65535 - was x y) ∧ IntKind.u64.wrap (65535 - (65535 - RB x y) + (65535 - was x y)) = 65535 - (65535 - RB x y) + (65535 - was x y)) ∧ IntKind.u64.wrap y.w = y.w) ∧ IntKind.u64.wrap (AA x y) = AA x y) ∧ (0 ≤ AA x y ∧ AA x y < 18446744073709551616)) ∧ IntKind.u16.wrap (65535 - sc.car (AA x y)) = 65535 - sc.car (AA x y)) ∧ own (NW x y) (0 + y.n)) ∧ IntKind.u16.wrap (65535 - rawN (NW x y)) = 65535 - rawN (NW x y)) ∧ own (LY x y) y.n) ∧ (rawN (LY x y) == 65535) = true) ∧ (65535 - sc.car (AA x y) == 65535 - rawN (NW x y)) = true) ∧ True)
def tlno (p : Prop) : Prop := (((((((((((((((((((((((((((((((((((((((p ∧ x.F = x.F ∧ 0 = 0 ∧ Byt (wk x y) ∧ y.n = (wk x y).length ∧ y.n ≤ 1000 ∧ y.n ≤ y.c ∧ okA y.n y.a) ∧ (0 ≤ y.a ∧ y.a < nI y.n)) ∧ 0 + y.a.toNat * 1 < (x.D y.P).length) ∧ IntKind.u16.wrap (b1 x y) = b1 x y) ∧ IntKind.u16.wrap (b1 x y * 256) = b1 x y * 256) ∧ IntKind.i64.wrap (y.a + 1) = y.a + 1) ∧ (0 ≤ y.a + 1 ∧ y.a + 1 < nI y.n)) ∧ 0 + (y.a + 1).toNat * 1 < (x.D y.P).length) ∧ IntKind.u16.wrap (b2 x y) = b2 x y) ∧ IntKind.u16.wrap (was x y) = was x y) ∧ decide (0 + y.n ≤ 0) = false) ∧ bW x y) ∧ IntKind.i64.wrap (y.a + 1) = y.a + 1) ∧ IntKind.u8.wrap (hw y) = hw y) ∧ IntKind.u8.wrap (y.w.tmod 256) = y.w.tmod 256) ∧ (0 ≤ y.a ∧ y.a < nI (0 + y.n))) ∧ 0 + y.a.toNat * 1 + 1 ≤ (wk x y).length) ∧ (0 ≤ y.a + 1 ∧ y.a + 1 < nI (0 + y.n))) ∧ 0 + (y.a + 1).toNat * 1 + 1 ≤ (N1 x y).length) ∧ cB x y) ∧ IntKind.u16.wrap (65535 - RB x y) = 65535 - RB x y) ∧ IntKind.u16.wrap (65535 - (65535 - RB x y)) = 65535 - (65535 - RB x y)) ∧ IntKind.u64.wrap (65535 - (65535 - RB x y)) = 65535 - (65535 - RB x y)) ∧ IntKind.u16.wrap (65535 - was x y) = 65535 - was x y) ∧ IntKind.u64.wrap (65535 - was x y) = 65535 - was x y) ∧ IntKind.u64.wrap (65535 - (65535 - RB x y) + (65535 - was x y)) = 65535 - (65535 - RB x y) + (65535 - was x y)) ∧ IntKind.u64.wrap y.w = y.w) ∧ IntKind.u64.wrap (AA x y) = AA x y) ∧ (0 ≤ AA x y ∧ AA x y < 18446744073709551616)) ∧ IntKind.u16.wrap (65535 - sc.car (AA x y)) = 65535 - sc.car (AA x y)) ∧ own (NW x y) (0 + y.n)) ∧ IntKind.u16.wrap (65535 - rawN (NW x y)) = 65535 - rawN (NW x y)) ∧ own (LY x y) y.n) ∧ (rawN (LY x y) == 65535) = true) ∧ (65535 - sc.car (AA x y) == 65535 - rawN (NW x y)) = false) ∧ (65535 - sc.car (AA x y) == 0) = true) ∧ true = true) ∧ (65535 - rawN (NW x y) == 65535) = true) ∧ True)
def tler (p : Prop) : Prop := ((p ∧ x.F = x.F ∧ y.n ≤ 1000 ∧ ¬ okA y.n y.a) ∧ True)
theorem rFteq : goT x (sF x y t s g f k v) [some true, some false, none, some false, none, some true, some true, some true, some false, none, none, none, none, none, none, none, none, none, none, none, none, none, some false, none, none, none, none, none, none, none, none, some false, none, none, none, none, none, none, none, none, none, none, some false, some true, none, some true, some true, some true, some true, some true, some true, some true, some true, some true, some false, some true, some true, some true, some true, some true, some true, some true, some true, some true, some true, some true, some true, some true, some true, some true, some true, some true, some true, none, none, none, some true] = some (.ret, tleq x y (hdt x y t s f k g ((((((True ∧ pQ y f (nI y.n)) ∧ gr k) ∧ 0 + k * 1 ≤ k) ∧ pQ y f (nI y.n)) ∧ w1 x y t s f (nI y.n)))), [], .bool true) := by kernel_rfl
theorem rFtno : goT x (sF x y t s g f k v) [some true, some false, none, some false, none, some true, some true, some true, some false, none, none, none, none, none, none, none, none, none, none, none, none, none, some false, none, none, none, none, none, none, none, none, some false, none, none, none, none, none, none, none, none, none, none, some false, some true, none, some true, some true, some true, some true, some true, some true, some true, some true, some true, some false, some true, some true, some true, some true, some true, some true, some true, some true, some true, some true, some true, some true, some true, some true, some true, some true, some true, some true, none, none, none, some false, none, none, some true, none, none, none, some true, none, none, some true] = some (.ret, tlno x y (hdt x y t s f k g ((((((True ∧ pQ y f (nI y.n)) ∧ gr k) ∧ 0 + k * 1 ≤ k) ∧ pQ y f (nI y.n)) ∧ w1 x y t s f (nI y.n)))), [], .bool true) := by kernel_rfl
theorem rFter : goT x (sF x y t s g f k v) [some true, some false, none, some false, none, some true, some true, some true, some false, none, none, none, none, none, none, none, none, none, none, none, none, none, some false, none, none, none, none, none, none, none, none, some false, none, none, none, none, none, none, none, none, none, none, some false, some false] = some (.ret, tler x y (hdt x y t s f k g ((((((True ∧ pQ y f (nI y.n)) ∧ gr k) ∧ 0 + k * 1 ≤ k) ∧ pQ y f (nI y.n)) ∧ w1 x y t s f (nI y.n)))), [], .bool true) := by kernel_rfl
theorem rFfeq : goT x (sF x y t s g f k v) [some true, some false, none, some false, none, some true, some true, some false, some false, none, none, none, none, none, none, none, none, none, none, none, none, none, some false, none, none, none, none, none, none, none, none, some false, none, none, none, none, none, none, none, none, none, none, some false, some true, none, some true, some true, some true, some true, some true, some true, some true, some true, some true, some false, some true, some true, some true, some true, some true, some true, some true, some true, some true, some true, some true, some true, some true, some true, some true, some true, some true, some true, none, none, none, some true] = some (.ret, tleq x y (hdf x y t f k g ((((((True ∧ pQ y f (nI y.n)) ∧ gr k) ∧ 0 + k * 1 ≤ k) ∧ pQ y f (nI y.n)) ∧ w0 x t s f (nI y.n)))), [], .bool true) := by kernel_rfl
theorem rFfno : goT x (sF x y t s g f k v) [some true, some false, none, some false, none, some true, some true, some false, some false, none, none, none, none, none, none, none, none, none, none, none, none, none, some false, none, none, none, none, none, none, none, none, some false, none, none, none, none, none, none, none, none, none, none, some false, some true, none, some true, some true, some true, some true, some true, some true, some true, some true, some true, some false, some true, some true, some true, some true, some true, some true, some true, some true, some true, some true, some true, some true, some true, some true, some true, some true, some true, some true, none, none, none, some false, none, none, some true, none, none, none, some true, none, none, some true] = some (.ret, tlno x y (hdf x y t f k g ((((((True ∧ pQ y f (nI y.n)) ∧ gr k) ∧ 0 + k * 1 ≤ k) ∧ pQ y f (nI y.n)) ∧ w0 x t s f (nI y.n)))), [], .bool true) := by kernel_rfl
theorem rFfer : goT x (sF x y t s g f k v) [some true, some false, none, some false, none, some true, some true, some false, some false, none, none, none, none, none, none, none, none, none, none, none, none, none, some false, none, none, none, none, none, none, none, none, some false, none, none, none, none, none, none, none, none, none, none, some false, some false] = some (.ret, tler x y (hdf x y t f k g ((((((True ∧ pQ y f (nI y.n)) ∧ gr k) ∧ 0 + k * 1 ≤ k) ∧ pQ y f (nI y.n)) ∧ w0 x t s f (nI y.n)))), [], .bool true) := by kernel_rfl
theorem rNteq : goT x (sN x y t s f 0 v) [some true, some true, some true, some false, none, none, none, none, none, none, none, none, none, none, none, none, none, some false, none, none, none, none, none, none, none, none, some false, none, none, none, none, none, none, none, none, none, none, some false, some true, none, some true, some true, some true, some true, some true, some true, some true, some true, some true, some false, some true, some true, some true, some true, some true, some true, some true, some true, some true, some true, some true, some true, some true, some true, some true, some true, some true, some true, none, none, none, some true] = some (.ret, tleq x y (hdt x y t s f 0 g ((((True ∧ pQ y f (nI y.n)) ∧ pQ y f (nI y.n)) ∧ w1 x y t s f (nI y.n)))), [], .bool true) := by kernel_rfl
theorem rNtno : goT x (sN x y t s f 0 v) [some true, some true, some true, some false, none, none, none, none, none, none, none, none, none, none, none, none, none, some false, none, none, none, none, none, none, none, none, some false, none, none, none, none, none, none, none, none, none, none, some false, some true, none, some true, some true, some true, some true, some true, some true, some true, some true, some true, some false, some true, some true, some true, some true, some true, some true, some true, some true, some true, some true, some true, some true, some true, some true, some true, some true, some true, some true, none, none, none, some false, none, none, some true, none, none, none, some true, none, none, some true] = some (.ret, tlno x y (hdt x y t s f 0 g ((((True ∧ pQ y f (nI y.n)) ∧ pQ y f (nI y.n)) ∧ w1 x y t s f (nI y.n)))), [], .bool true) := by kernel_rfl
theorem rNter : goT x (sN x y t s f 0 v) [some true, some true, some true, some false, none, none, none, none, none, none, none, none, none, none, none, none, none, some false, none, none, none, none, none, none, none, none, some false, none, none, none, none, none, none, none, none, none, none, some false, some false] = some (.ret, tler x y (hdt x y t s f 0 g ((((True ∧ pQ y f (nI y.n)) ∧ pQ y f (nI y.n)) ∧ w1 x y t s f (nI y.n)))), [], .bool true) := by kernel_rfl
theorem rNfeq : goT x (sN x y t s f 0 v) [some true, some true, some false, some false, none, none, none, none, none, none, none, none, none, none, none, none, none, some false, none, none, none, none, none, none, none, none, some false, none, none, none, none, none, none, none, none, none, none, some false, some true, none, some true, some true, some true, some true, some true, some true, some true, some true, some true, some false, some true, some true, some true, some true, some true, some true, some true, some true, some true, some true, some true, some true, some true, some true, some true, some true, some true, some true, none, none, none, some true] = some (.ret, tleq x y (hdf x y t f 0 g ((((True ∧ pQ y f (nI y.n)) ∧ pQ y f (nI y.n)) ∧ w0 x t s f (nI y.n)))), [], .bool true) := by kernel_rfl
theorem rNfno : goT x (sN x y t s f 0 v) [some true, some true, some false, some false, none, none, none, none, none, none, none, none, none, none, none, none, none, some false, none, none, none, none, none, none, none, none, some false, none, none, none, none, none, none, none, none, none, none, some false, some true, none, some true, some true, some true, some true, some true, some true, some true, some true, some true, some false, some true, some true, some true, some true, some true, some true, some true, some true, some true, some true, some true, some true, some true, some true, some true, some true, some true, some true, none, none, none, some false, none, none, some true, none, none, none, some true, none, none, some true] = some (.ret, tlno x y (hdf x y t f 0 g ((((True ∧ pQ y f (nI y.n)) ∧ pQ y f (nI y.n)) ∧ w0 x t s f (nI y.n)))), [], .bool true) := by kernel_rfl
theorem rNfer : goT x (sN x y t s f 0 v) [some true, some true, some false, some false, none, none, none, none, none, none, none, none, none, none, none, none, none, some false, none, none, none, none, none, none, none, none, some false, none, none, none, none, none, none, none, none, none, none, some false, some false] = some (.ret, tler x y (hdf x y t f 0 g ((((True ∧ pQ y f (nI y.n)) ∧ pQ y f (nI y.n)) ∧ w0 x t s f (nI y.n)))), [], .bool true) := by kernel_rfl
end
end si
end Go.Proofs.Yteknepfcbpoooab
