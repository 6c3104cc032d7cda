/- Read off the code by the clean reading. -/
import Derived.Test.YtkcngffpnnlmeaaClnHa
set_option linter.unusedVariables false
set_option linter.unusedSimpArgs false
set_option linter.deprecated false
set_option maxRecDepth 100000
namespace Go.Proofs.Ytkcngffpnnlmeaa
open Go.ChangeShapes Go.WideShapes Go.ChangeAt Go.RowKit Go.Cln
namespace ho
open ae ga gc
open gb (KT KT_ok tgN tgG zM zM_ok kW_key keyL_ok oKy nul OkKy keyL Mk putE putR asE asR asT OkM lft oCm oMm VF)
set_option linter.unusedVariables false
noncomputable section
open gb (rp vs deadT_vs allB ir)
def WL (i : Nat) : Bool := Nat.beq i 17 || (Nat.ble 53 i && Nat.ble i 74)
def VL (v : VF) : VF := fun i => match WL i with
  | true => junk
  | false => v i
def BL (i : Nat) : Bool := ((Nat.ble 0 i && Nat.ble i 5) || (Nat.ble 8 i && Nat.ble i 16)) || WL i
theorem VL_dead {v : VF} (h : ∀ i, DeadV (v i)) (i : Nat) : DeadV (VL v i) := by
  unfold VL
  split
  · exact DeadV.junk
  · exact h i
theorem lvL (i : Nat) (h : ((Nat.ble 0 i && Nat.ble i 5) || (Nat.ble 8 i && Nat.ble i 16)) = true) : BL i = true := by
  unfold BL
  simp only [Bool.or_eq_true] at h ⊢
  exact .inl h
def WX (i : Nat) : Bool := (Nat.ble 53 i && Nat.ble i 56)
def VX (v : VF) : VF := fun i => match WX i with
  | true => junk
  | false => v i
def BX (i : Nat) : Bool := ((Nat.ble 0 i && Nat.ble i 5) || (Nat.ble 8 i && Nat.ble i 16)) || WX i
theorem VX_dead {v : VF} (h : ∀ i, DeadV (v i)) (i : Nat) : DeadV (VX v i) := by
  unfold VX
  split
  · exact DeadV.junk
  · exact h i
theorem lvX (i : Nat) (h : ((Nat.ble 0 i && Nat.ble i 5) || (Nat.ble 8 i && Nat.ble i 16)) = true) : BX i = true := by
  unfold BX
  simp only [Bool.or_eq_true] at h ⊢
  exact .inl h
theorem VL2 (v : VF) : VL (VL v) = VL v := by
  funext i
  unfold VL
  cases WL i <;> rfl
def cut (x : HX) (u : KY) (k : Nat) : Int := (x.C u.Q).getD (0 + k * 1) 0
def wo (x : HX) (z : KY) (a to : Int) : List Int := wa (x.D z.Q) (0 + a.toNat * 1) (to.toNat - a.toNat)
def ln (a to : Int) : Nat := to.toNat - a.toNat
def pL (x : HX) (z u : KY) (a : Int) (k : Nat) (c1 c2 : Prop) (to : Int) (q : Prop) : Prop := (((((((True ∧ decide (nI k < nI u.n) = true) ∧ (0 ≤ nI k ∧ nI k < nI u.n)) ∧ 0 + k * 1 < (x.C u.Q).length) ∧ c1) ∧ c2) ∧ (0 ≤ to ∧ to ≤ nI z.c ∧ 0 ≤ a ∧ a ≤ to)) ∧ q) ∧ IntKind.i64.wrap (nI k + 1) = nI k + 1
def T1 : Option Bool := some true
def F1 : Option Bool := some false
def oL (e1 e2 : Option Bool) (l : List (Option Bool)) : List (Option Bool) := [T1, T1, T1, e1, e2, T1] ++ (l ++ [T1])
def goL (G : gb.GT) (V : VT) (T : CT) (XF : LV → LV → Nat → Int) (x : HX) (s : St) (rd : Option Nat) (o : List (Option Bool)) (t : St) (σ : List Nat) : Option (Exit × Prop × Seen) := (goH G V T XF x s rd o).map (fun r => (r.1, r.2.obl, seenInT BL r.2 t σ))
def goX (G : gb.GT) (V : VT) (T : CT) (XF : LV → LV → Nat → Int) (x : HX) (s : St) (rd : Option Nat) (o : List (Option Bool)) (t : St) : Option (Exit × Prop × Seen) := (goH G V T XF x s rd o).map (fun r => (r.1, r.2.obl, seenInT BX r.2 t []))
theorem kE0tt (x : HX) (X : Nat → Int) (g : Mk) (key : Nat → Int) (z u : KY) (bx bY : Nat → Int) (a : Int) (k : Nat) (v : VF) (G : gb.GT) (V : VT) (T : CT) (XF : LV → LV → Nat → Int) (rd : Option Nat) : goL G V T XF x (sHE x X g key z u bx bY a k v) rd (oL T1 T1 [F1]) (sHE x X g key z u bx bY (cut x u k) (k + 1) (VL v)) [] = some (.normal, pL x z u a k (decide (cut x u k < nI z.n) = true) (decide (cut x u k > a) = true) (cut x u k) (ln a (cut x u k) = 0), seenAsT BL (sHE x X g key z u bx bY (cut x u k) (k + 1) (VL v)) [] 302) := by kernel_rfl
theorem kE1tt (x : HX) (X : Nat → Int) (g : Mk) (key : Nat → Int) (z u : KY) (bx bY : Nat → Int) (a : Int) (k : Nat) (v : VF) (G : gb.GT) (V : VT) (T : CT) (XF : LV → LV → Nat → Int) (rd : Option Nat) : goL G V T XF x (sHE x X g key z u bx bY a k v) rd (oL T1 T1 [T1]) (sHR x X (putE V g (wo x z a (cut x u k)) (ln a (cut x u k))) key z u bx bY (cut x u k) (k + 1) (VL v)) (ir 297 [304]) = some (.normal, pL x z u a k (decide (cut x u k < nI z.n) = true) (decide (cut x u k > a) = true) (cut x u k) (asE V (wo x z a (cut x u k)) (ln a (cut x u k))), seenAsT BL (sHR x X (putE V g (wo x z a (cut x u k)) (ln a (cut x u k))) key z u bx bY (cut x u k) (k + 1) (VL v)) (ir 297 [304]) 305) := by kernel_rfl
theorem kR1tt (x : HX) (X : Nat → Int) (g : Mk) (key : Nat → Int) (z u : KY) (bx bY : Nat → Int) (a : Int) (k : Nat) (v : VF) (G : gb.GT) (V : VT) (T : CT) (XF : LV → LV → Nat → Int) (rd : Option Nat) : goL G V T XF x (sHR x X g key z u bx bY a k v) rd (oL T1 T1 []) (sHR x X (putR V g (wo x z a (cut x u k)) (ln a (cut x u k))) key z u bx bY (cut x u k) (k + 1) (VL v)) (ir 297 [305]) = some (.normal, pL x z u a k (decide (cut x u k < nI z.n) = true) (decide (cut x u k > a) = true) (cut x u k) (asR V g (wo x z a (cut x u k)) (ln a (cut x u k))), seenAsT BL (sHR x X (putR V g (wo x z a (cut x u k)) (ln a (cut x u k))) key z u bx bY (cut x u k) (k + 1) (VL v)) (ir 297 [305]) 306) := by kernel_rfl
theorem kE0ft (x : HX) (X : Nat → Int) (g : Mk) (key : Nat → Int) (z u : KY) (bx bY : Nat → Int) (a : Int) (k : Nat) (v : VF) (G : gb.GT) (V : VT) (T : CT) (XF : LV → LV → Nat → Int) (rd : Option Nat) : goL G V T XF x (sHE x X g key z u bx bY a k v) rd (oL F1 T1 [F1]) (sHE x X g key z u bx bY (nI z.n) (k + 1) (VL v)) [] = some (.normal, pL x z u a k (decide (cut x u k < nI z.n) = false) (decide (nI z.n > a) = true) (nI z.n) (ln a (nI z.n) = 0), seenAsT BL (sHE x X g key z u bx bY (nI z.n) (k + 1) (VL v)) [] 302) := by kernel_rfl
theorem kE1ft (x : HX) (X : Nat → Int) (g : Mk) (key : Nat → Int) (z u : KY) (bx bY : Nat → Int) (a : Int) (k : Nat) (v : VF) (G : gb.GT) (V : VT) (T : CT) (XF : LV → LV → Nat → Int) (rd : Option Nat) : goL G V T XF x (sHE x X g key z u bx bY a k v) rd (oL F1 T1 [T1]) (sHR x X (putE V g (wo x z a (nI z.n)) (ln a (nI z.n))) key z u bx bY (nI z.n) (k + 1) (VL v)) (ir 297 [304]) = some (.normal, pL x z u a k (decide (cut x u k < nI z.n) = false) (decide (nI z.n > a) = true) (nI z.n) (asE V (wo x z a (nI z.n)) (ln a (nI z.n))), seenAsT BL (sHR x X (putE V g (wo x z a (nI z.n)) (ln a (nI z.n))) key z u bx bY (nI z.n) (k + 1) (VL v)) (ir 297 [304]) 305) := by kernel_rfl
theorem kR1ft (x : HX) (X : Nat → Int) (g : Mk) (key : Nat → Int) (z u : KY) (bx bY : Nat → Int) (a : Int) (k : Nat) (v : VF) (G : gb.GT) (V : VT) (T : CT) (XF : LV → LV → Nat → Int) (rd : Option Nat) : goL G V T XF x (sHR x X g key z u bx bY a k v) rd (oL F1 T1 []) (sHR x X (putR V g (wo x z a (nI z.n)) (ln a (nI z.n))) key z u bx bY (nI z.n) (k + 1) (VL v)) (ir 297 [305]) = some (.normal, pL x z u a k (decide (cut x u k < nI z.n) = false) (decide (nI z.n > a) = true) (nI z.n) (asR V g (wo x z a (nI z.n)) (ln a (nI z.n))), seenAsT BL (sHR x X (putR V g (wo x z a (nI z.n)) (ln a (nI z.n))) key z u bx bY (nI z.n) (k + 1) (VL v)) (ir 297 [305]) 306) := by kernel_rfl
theorem kE0tf (x : HX) (X : Nat → Int) (g : Mk) (key : Nat → Int) (z u : KY) (bx bY : Nat → Int) (a : Int) (k : Nat) (v : VF) (G : gb.GT) (V : VT) (T : CT) (XF : LV → LV → Nat → Int) (rd : Option Nat) : goL G V T XF x (sHE x X g key z u bx bY a k v) rd (oL T1 F1 [F1]) (sHE x X g key z u bx bY a (k + 1) (VL v)) [] = some (.normal, pL x z u a k (decide (cut x u k < nI z.n) = true) (decide (cut x u k > a) = false) a (ln a a = 0), seenAsT BL (sHE x X g key z u bx bY a (k + 1) (VL v)) [] 302) := by kernel_rfl
theorem kE1tf (x : HX) (X : Nat → Int) (g : Mk) (key : Nat → Int) (z u : KY) (bx bY : Nat → Int) (a : Int) (k : Nat) (v : VF) (G : gb.GT) (V : VT) (T : CT) (XF : LV → LV → Nat → Int) (rd : Option Nat) : goL G V T XF x (sHE x X g key z u bx bY a k v) rd (oL T1 F1 [T1]) (sHR x X (putE V g (wo x z a a) (ln a a)) key z u bx bY a (k + 1) (VL v)) (ir 297 [304]) = some (.normal, pL x z u a k (decide (cut x u k < nI z.n) = true) (decide (cut x u k > a) = false) a (asE V (wo x z a a) (ln a a)), seenAsT BL (sHR x X (putE V g (wo x z a a) (ln a a)) key z u bx bY a (k + 1) (VL v)) (ir 297 [304]) 305) := by kernel_rfl
theorem kR1tf (x : HX) (X : Nat → Int) (g : Mk) (key : Nat → Int) (z u : KY) (bx bY : Nat → Int) (a : Int) (k : Nat) (v : VF) (G : gb.GT) (V : VT) (T : CT) (XF : LV → LV → Nat → Int) (rd : Option Nat) : goL G V T XF x (sHR x X g key z u bx bY a k v) rd (oL T1 F1 []) (sHR x X (putR V g (wo x z a a) (ln a a)) key z u bx bY a (k + 1) (VL v)) (ir 297 [305]) = some (.normal, pL x z u a k (decide (cut x u k < nI z.n) = true) (decide (cut x u k > a) = false) a (asR V g (wo x z a a) (ln a a)), seenAsT BL (sHR x X (putR V g (wo x z a a) (ln a a)) key z u bx bY a (k + 1) (VL v)) (ir 297 [305]) 306) := by kernel_rfl
theorem kE0ff (x : HX) (X : Nat → Int) (g : Mk) (key : Nat → Int) (z u : KY) (bx bY : Nat → Int) (a : Int) (k : Nat) (v : VF) (G : gb.GT) (V : VT) (T : CT) (XF : LV → LV → Nat → Int) (rd : Option Nat) : goL G V T XF x (sHE x X g key z u bx bY a k v) rd (oL F1 F1 [F1]) (sHE x X g key z u bx bY a (k + 1) (VL v)) [] = some (.normal, pL x z u a k (decide (cut x u k < nI z.n) = false) (decide (nI z.n > a) = false) a (ln a a = 0), seenAsT BL (sHE x X g key z u bx bY a (k + 1) (VL v)) [] 302) := by kernel_rfl
theorem kE1ff (x : HX) (X : Nat → Int) (g : Mk) (key : Nat → Int) (z u : KY) (bx bY : Nat → Int) (a : Int) (k : Nat) (v : VF) (G : gb.GT) (V : VT) (T : CT) (XF : LV → LV → Nat → Int) (rd : Option Nat) : goL G V T XF x (sHE x X g key z u bx bY a k v) rd (oL F1 F1 [T1]) (sHR x X (putE V g (wo x z a a) (ln a a)) key z u bx bY a (k + 1) (VL v)) (ir 297 [304]) = some (.normal, pL x z u a k (decide (cut x u k < nI z.n) = false) (decide (nI z.n > a) = false) a (asE V (wo x z a a) (ln a a)), seenAsT BL (sHR x X (putE V g (wo x z a a) (ln a a)) key z u bx bY a (k + 1) (VL v)) (ir 297 [304]) 305) := by kernel_rfl
theorem kR1ff (x : HX) (X : Nat → Int) (g : Mk) (key : Nat → Int) (z u : KY) (bx bY : Nat → Int) (a : Int) (k : Nat) (v : VF) (G : gb.GT) (V : VT) (T : CT) (XF : LV → LV → Nat → Int) (rd : Option Nat) : goL G V T XF x (sHR x X g key z u bx bY a k v) rd (oL F1 F1 []) (sHR x X (putR V g (wo x z a a) (ln a a)) key z u bx bY a (k + 1) (VL v)) (ir 297 [305]) = some (.normal, pL x z u a k (decide (cut x u k < nI z.n) = false) (decide (nI z.n > a) = false) a (asR V g (wo x z a a) (ln a a)), seenAsT BL (sHR x X (putR V g (wo x z a a) (ln a a)) key z u bx bY a (k + 1) (VL v)) (ir 297 [305]) 306) := by kernel_rfl
theorem kxE (x : HX) (X : Nat → Int) (g : Mk) (key : Nat → Int) (z u : KY) (bx bY : Nat → Int) (a : Int) (k : Nat) (v : VF) (G : gb.GT) (V : VT) (T : CT) (XF : LV → LV → Nat → Int) (rd : Option Nat) : goX G V T XF x (sHE x X g key z u bx bY a k v) rd [F1] (sHE x X g key z u bx bY a k (VX v)) = some (.exit 0, True ∧ decide (nI k < nI u.n) = false, seenAsT BX (sHE x X g key z u bx bY a k (VX v)) [] 297) := by kernel_rfl
theorem kxR (x : HX) (X : Nat → Int) (g : Mk) (key : Nat → Int) (z u : KY) (bx bY : Nat → Int) (a : Int) (k : Nat) (v : VF) (G : gb.GT) (V : VT) (T : CT) (XF : LV → LV → Nat → Int) (rd : Option Nat) : goX G V T XF x (sHR x X g key z u bx bY a k v) rd [F1] (sHR x X g key z u bx bY a k (VX v)) = some (.exit 0, True ∧ decide (nI k < nI u.n) = false, seenAsT BX (sHR x X g key z u bx bY a k (VX v)) [] 298) := by kernel_rfl
theorem oE (tE : List Value) (gE : Nat → Option Ob) (x : HX) (X : Nat → Int) (g : Mk) (key : Nat → Int) (z u : KY) (bx bY : Nat → Int) (a : Int) (k : Nat) (v : VF) : picOkT BL (⟨tE, [], Tr.rebuild gE 297, 297, 1, [], fun _ => false, True, []⟩ : St) (sHE x X g key z u bx bY a k (VL v)) [] = true := by kernel_rfl
theorem oR4 (tE : List Value) (gE : Nat → Option Ob) (x : HX) (X : Nat → Int) (g : Mk) (key : Nat → Int) (z u : KY) (bx bY : Nat → Int) (a : Int) (k : Nat) (v : VF) : picOkT BL (⟨tE, [], Tr.rebuild gE 297, 297, 1, [], fun _ => false, True, []⟩ : St) (sHR x X g key z u bx bY a k (VL v)) (ir 297 [304]) = true := by kernel_rfl
theorem oR5 (tE : List Value) (gE : Nat → Option Ob) (x : HX) (X : Nat → Int) (g : Mk) (key : Nat → Int) (z u : KY) (bx bY : Nat → Int) (a : Int) (k : Nat) (v : VF) : picOkT BL (⟨tE, [], Tr.rebuild gE 297, 297, 1, [], fun _ => false, True, []⟩ : St) (sHR x X g key z u bx bY a k (VL v)) (ir 297 [305]) = true := by kernel_rfl
theorem oEX (tE : List Value) (gE : Nat → Option Ob) (x : HX) (X : Nat → Int) (g : Mk) (key : Nat → Int) (z u : KY) (bx bY : Nat → Int) (a : Int) (k : Nat) (v : VF) : picOkT BX (⟨tE, [], Tr.rebuild gE 297, 297, 1, [], fun _ => false, True, []⟩ : St) (sHE x X g key z u bx bY a k (VX v)) [] = true := by kernel_rfl
theorem oRX (tE : List Value) (gE : Nat → Option Ob) (x : HX) (X : Nat → Int) (g : Mk) (key : Nat → Int) (z u : KY) (bx bY : Nat → Int) (a : Int) (k : Nat) (v : VF) : picOkT BX (⟨tE, [], Tr.rebuild gE 297, 297, 1, [], fun _ => false, True, []⟩ : St) (sHR x X g key z u bx bY a k (VX v)) [] = true := by kernel_rfl
end
end ho
end Go.Proofs.Ytkcngffpnnlmeaa
namespace Go.Proofs.Ytkcngffpnnlmeaa
open Go.ChangeShapes Go.WideShapes Go.ChangeAt Go.RowKit Go.Cln
namespace ho
open ae ga gc
open gb (KT KT_ok tgN tgG zM zM_ok kW_key keyL_ok oKy nul OkKy keyL Mk putE putR asE asR asT OkM lft oCm oMm VF)
set_option linter.unusedVariables false
noncomputable section
open gb (rp vs deadT_vs allB ir)
def toK (x : HX) (z u : KY) (a : Int) (k : Nat) : Int := if cut x u k < nI z.n then (if cut x u k > a then cut x u k else a) else (if nI z.n > a then nI z.n else a)
def aK (x : HX) (z u : KY) : Nat → Int
  | 0 => 0
  | k + 1 => toK x z u (aK x z u k) k
theorem toK_le {x : HX} {z u : KY} {a : Int} (k : Nat) (h : a ≤ nI z.n) : a ≤ toK x z u a k ∧ toK x z u a k ≤ nI z.n := by
  unfold toK
  split <;> split <;> omega
theorem aK_le (x : HX) (z u : KY) : ∀ k, 0 ≤ aK x z u k ∧ aK x z u k ≤ nI z.n
  | 0 => ⟨Int.le_refl 0, Int.natCast_nonneg _⟩
  | k + 1 => by
    have h := aK_le x z u k
    have h2 := toK_le (x := x) (u := u) k h.2
    exact ⟨by show 0 ≤ toK _ _ _ _ _; omega, h2.2⟩
theorem wo_len {x : HX} {z : KY} (h : By x z) {a to : Int} (h1 : a ≤ to) (h2 : to ≤ nI z.n) : (wo x z a to).length = ln a to := by
  have hl : z.n = (((x.D z.Q).drop 0).take z.n).length := h.len
  rw [List.drop_zero, List.length_take] at hl
  unfold wo wa ln
  rw [List.length_take, List.length_drop]
  unfold nI at h2
  omega
theorem wo_take {x : HX} {z : KY} (h : By x z) {a to : Int} (h1 : a ≤ to) (h2 : to ≤ nI z.n) : (wk x z).take a.toNat ++ wo x z a to = (wk x z).take to.toNat := by
  unfold wo wk wa
  unfold nI at h2
  rw [Nat.zero_add, Nat.mul_one, List.drop_zero]
  have e : to.toNat = a.toNat + (to.toNat - a.toNat) := by omega
  rw [List.take_take, List.take_take, Nat.min_eq_left (by omega), Nat.min_eq_left (by omega)]
  conv => rhs; rw [e, List.take_add]
def nxt (p : Mk × Bool) (w : List Int) (n : Nat) : Mk × Bool := match p with
  | (g, true) => (putR VT0 g w n, true)
  | (g, false) => if n = 0 then (g, false) else (putE VT0 g w n, true)
structure Good (K : List Int) (p : Mk × Bool) (M : List Int) : Prop where
  ok : OkM K p.1 M
  t : p.2 = true → 0 < M.length
  f : p.2 = false → M = []
theorem Good.next {K : List Int} {p : Mk × Bool} {M w : List Int} {n : Nat} (h : Good K p M) (hn : w.length = n) : Good K (nxt p w n) (M ++ w) := by
  obtain ⟨g, b⟩ := p
  obtain ⟨h1, h2, h3⟩ := h
  cases b with
  | true => exact ⟨h1.putR (h2 rfl) hn, fun _ => by have := h2 rfl; rw [List.length_append]; omega, (fun h => by cases h)⟩
  | false =>
    obtain rfl := h3 rfl
    rw [List.nil_append]
    by_cases h0 : n = 0
    · have er : w = [] := List.eq_nil_of_length_eq_zero (by omega)
      subst er
      have e : nxt (g, false) [] n = (g, false) := if_pos h0
      rw [e]
      exact ⟨h1, (fun h => by cases h), fun _ => rfl⟩
    · have e : nxt (g, false) w n = (putE VT0 g w n, true) := if_neg h0
      rw [e]
      exact ⟨h1.putE hn (by omega), fun _ => by omega, (fun h => by cases h)⟩
def hK (x : HX) (z u : KY) (m : Mk) : Nat → Mk × Bool
  | 0 => (m, false)
  | k + 1 => nxt (hK x z u m k) (wo x z (aK x z u k) (aK x z u (k + 1))) (ln (aK x z u k) (aK x z u (k + 1)))
theorem hK_ok {x : HX} {z u : KY} (h : By x z) {K : List Int} {m : Mk} (hm : OkM K m []) : ∀ k, Good K (hK x z u m k) ((wk x z).take (aK x z u k).toNat)
  | 0 => ⟨by show OkM K m ((wk x z).take 0); rw [List.take_zero]; exact hm, (fun h => by cases h), fun _ => by show (wk x z).take 0 = []; rw [List.take_zero]⟩
  | k + 1 => by
    have ih := hK_ok (u := u) h hm k
    have hk := aK_le x z u k
    have ht := toK_le (x := x) (u := u) k hk.2
    have := ih.next (wo_len h ht.1 ht.2)
    rw [wo_take h ht.1 ht.2] at this
    exact this
def vU : VF := fun i => match (Nat.ble 31 i && Nat.ble i 39) || (Nat.ble 42 i && Nat.ble i 44) || Nat.beq i 47 || Nat.beq i 49 || (Nat.ble 51 i && Nat.ble i 52) with
  | true => junk
  | false => match Nat.beq i 41 || Nat.beq i 45 with
    | true => .tuple #[.agg #[junk, junk, junk, junk, junk, junk, junk, junk, junk, junk, junk, junk, junk, junk, junk, junk], junk]
    | false => match Nat.beq i 46 with
      | true => .agg #[junk, junk, junk, junk, junk, junk, junk, junk, junk, junk, junk, junk, junk, junk, junk, junk]
      | false => match Nat.beq i 48 || Nat.beq i 50 with
        | true => .tuple #[junk, junk]
        | false => undef
theorem vU_dead (i : Nat) : DeadV (vU i) := by
  unfold vU
  split
  · exact DeadV.junk
  · split
    · exact ⟨rfl, fun _ => rfl, fun _ => rfl⟩
    · split
      · exact ⟨rfl, fun _ => rfl, fun _ => rfl⟩
      · split
        · exact ⟨rfl, fun _ => rfl, fun _ => rfl⟩
        · exact DeadV.undef
def vK : Nat → VF
  | 0 => vU
  | _ + 1 => VL vU
theorem vK_dead (k i : Nat) : DeadV (vK k i) := by
  cases k with
  | zero => exact vU_dead i
  | succ k => exact VL_dead vU_dead i
theorem vK_succ (k : Nat) : VL (vK k) = vK (k + 1) := by
  cases k with
  | zero => rfl
  | succ k => exact VL2 _
def tEn (X : Nat → Int) (key : Nat → Int) (z u : KY) (bx bY : Nat → Int) : List Value := [row16 key, kv z, cv u, row16 bx, row16 bY, P0 1 0, undef, undef, P0 2 0, P0 3 0, .bool false, P0 204 0, .int .i64 0, P0 296 0, .int .i64 0, .int .i64 0, .int .i64 0] ++ (List.replicate 14 undef ++ (List.replicate 9 junk ++ ([undef, .tuple #[row16 X, .int .i64 0]] ++ (List.replicate 3 junk ++ ([.tuple #[row16 X, .int .i64 0], row16 X, junk, .tuple #[P0 296 0, .int .i64 0], junk, .tuple #[P0 296 0, .int .i64 0], junk, junk] ++ List.replicate 125 undef)))))
def sEn (x : HX) (X : Nat → Int) (g : Mk) (key : Nat → Int) (z u : KY) (bx bY : Nat → Int) : St := ⟨tEn X key z u bx bY, [], Tr.rebuild (hpE x X g key bx bY) 297, 297, 1, [], fun _ => false, True, []⟩
theorem seeE (x : HX) (X : Nat → Int) (g : Mk) (key : Nat → Int) (z u : KY) (bx bY : Nat → Int) : seenInT allB (sEn x X g key z u bx bY) (sHE x X g key z u bx bY 0 0 vU) [] = seenAsT allB (sHE x X g key z u bx bY 0 0 vU) [] 297 := by kernel_rfl
theorem viewE (x : HX) (X : Nat → Int) (g : Mk) (key : Nat → Int) (z u : KY) (bx bY : Nat → Int) : ViewM (sEn x X g key z u bx bY) (sEn x X g key z u bx bY) (sHE x X g key z u bx bY 0 0 vU) (nm []) :=
  ViewM.stdT (f := hpE x X g key bx bY) (tmH_dead vU_dead (fun _ _ => rfl)) (hpE_ok _ _ _ _ _ _) rfl (by kernel_rfl) (seeE x X g key z u bx bY)
def sG (x : HX) (X : Nat → Int) (key : Nat → Int) (z u : KY) (bx bY : Nat → Int) (a : Int) (k : Nat) (v : VF) : Mk × Bool → St
  | (g, true) => sHR x X g key z u bx bY a k v
  | (g, false) => sHE x X g key z u bx bY a k v
theorem asR_of {K : List Int} {g : Mk} {M w : List Int} {n : Nat} (h : OkM K g M) (h0 : 0 < M.length) (hn : w.length = n) (h1 : n ≤ 900000) : asR VT0 g w n := h.asR h0 hn h1
theorem pL_ok {x : HX} {z u : KY} {k : Nat} {a to : Int} {c1 c2 q : Prop} (hz : By x z) (hk : k < u.n) (hu : u.n ≤ 1000) (hc : u.n ≤ (x.C u.Q).length) (h0 : 0 ≤ a) (h1 : a ≤ to) (h2 : to ≤ nI z.n) (g1 : c1) (g2 : c2) (hq : q) : pL x z u a k c1 c2 to q := by
  have hr := hz.room
  refine ⟨⟨⟨⟨⟨⟨⟨⟨trivial, ?_⟩, ?_⟩, ?_⟩, g1⟩, g2⟩, ⟨by omega, ?_, h0, h1⟩⟩, hq⟩, ?_⟩
  · simp only [nI, decide_eq_true_eq]; omega
  · simp only [nI]; omega
  · omega
  · unfold nI at *; omega
  · simp only [nI]; rw [IntKind.wrap_i64]; omega
theorem roundT {x : HX} {X : Nat → Int} {g0 : Mk} {key : Nat → Int} {z u : KY} {bx bY : Nat → Int} {K : List Int} {p : Mk × Bool} {M : List Int} {a to : Int} {k : Nat} {v : VF} {c1 c2 : Prop} {e1 e2 : Option Bool} {rd : Option Nat} (hv : ∀ i, DeadV (v i)) (hg : Good K p M) (hw : (wo x z a to).length = ln a to) (hs : ln a to ≤ 1000)
    (hp : ∀ q : Prop, q → pL x z u a k c1 c2 to q)
    (r0 : ∀ g, goL tagF VT0 CT0 (fun x y => keyF (intAt x) (intAt y)) x (sHE x X g key z u bx bY a k v) rd (oL e1 e2 [F1]) (sHE x X g key z u bx bY to (k + 1) (VL v)) [] = some (.normal, pL x z u a k c1 c2 to (ln a to = 0), seenAsT BL (sHE x X g key z u bx bY to (k + 1) (VL v)) [] 302))
    (r1 : ∀ g, goL tagF VT0 CT0 (fun x y => keyF (intAt x) (intAt y)) x (sHE x X g key z u bx bY a k v) rd (oL e1 e2 [T1]) (sHR x X (putE VT0 g (wo x z a to) (ln a to)) key z u bx bY to (k + 1) (VL v)) (ir 297 [304]) = some (.normal, pL x z u a k c1 c2 to (asE VT0 (wo x z a to) (ln a to)), seenAsT BL (sHR x X (putE VT0 g (wo x z a to) (ln a to)) key z u bx bY to (k + 1) (VL v)) (ir 297 [304]) 305))
    (r2 : ∀ g, goL tagF VT0 CT0 (fun x y => keyF (intAt x) (intAt y)) x (sHR x X g key z u bx bY a k v) rd (oL e1 e2 []) (sHR x X (putR VT0 g (wo x z a to) (ln a to)) key z u bx bY to (k + 1) (VL v)) (ir 297 [305]) = some (.normal, pL x z u a k c1 c2 to (asR VT0 g (wo x z a to) (ln a to)), seenAsT BL (sHR x X (putR VT0 g (wo x z a to) (ln a to)) key z u bx bY to (k + 1) (VL v)) (ir 297 [305]) 306)) :
    Step Try.prog rd (sEn x X g0 key z u bx bY) lH (sG x X key z u bx bY a k v p) (fun e t => e = .normal ∧ t = sG x X key z u bx bY to (k + 1) (VL v) (nxt p (wo x z a to) (ln a to))) := by
  obtain ⟨g, b⟩ := p
  obtain ⟨h1, h2, h3⟩ := hg
  cases b with
  | true => exact Step.stdT pg (KH_ok ..) (B := BL) (g := hpR x X _ key bx bY) (r2 g) (hp _ (asR_of h1 (h2 rfl) hw (by omega))) (show 297 ≤ 298 by decide) (tmH_dead (VL_dead hv) lvL) (hpR_ok _ _ _ _ _ _) rfl (oR5 ..)
  | false =>
    by_cases h0 : ln a to = 0
    · have e : nxt (g, false) (wo x z a to) (ln a to) = (g, false) := if_pos h0
      rw [e]
      exact Step.stdT pg (KH_ok ..) (B := BL) (g := hpE x X _ key bx bY) (r0 g) (hp _ h0) (Nat.le_refl _) (tmH_dead (VL_dead hv) lvL) (hpE_ok _ _ _ _ _ _) rfl (oE ..)
    · have e : nxt (g, false) (wo x z a to) (ln a to) = (putE VT0 g (wo x z a to) (ln a to), true) := if_neg h0
      rw [e]
      exact Step.stdT pg (KH_ok ..) (B := BL) (g := hpR x X _ key bx bY) (r1 g) (hp _ (OkM.asE (K := K) (g := g) hw (by omega) (by omega))) (Nat.le_refl _) (tmH_dead (VL_dead hv) lvL) (hpR_ok _ _ _ _ _ _) rfl (oR4 ..)
def sKk (x : HX) (X : Nat → Int) (m : Mk) (key : Nat → Int) (z u : KY) (bx bY : Nat → Int) (k : Nat) : St := sG x X key z u bx bY (aK x z u k) k (vK k) (hK x z u m k)
theorem round {x : HX} {X : Nat → Int} {m : Mk} {K : List Int} {key : Nat → Int} {z u : KY} {bx bY : Nat → Int} {k : Nat} (hz : By x z) (hm : OkM K m []) (hz1 : z.n ≤ 1000) (hk : k < u.n) (hu : u.n ≤ 1000) (hc : u.n ≤ (x.C u.Q).length) (rd : Option Nat) :
    Step Try.prog rd (sEn x X m key z u bx bY) lH (sKk x X m key z u bx bY k) (fun e t => e = .normal ∧ t = sKk x X m key z u bx bY (k + 1)) := by
  have hA := aK_le x z u k
  have ht := toK_le (x := x) (u := u) k hA.2
  have hG := hK_ok (u := u) hz hm k
  have hw := wo_len hz ht.1 ht.2
  have hs : ln (aK x z u k) (toK x z u (aK x z u k) k) ≤ 1000 := by have := ht.2; unfold ln; unfold nI at *; omega
  have eS : sKk x X m key z u bx bY (k + 1) = sG x X key z u bx bY (toK x z u (aK x z u k) k) (k + 1) (VL (vK k)) (nxt (hK x z u m k) (wo x z (aK x z u k) (toK x z u (aK x z u k) k)) (ln (aK x z u k) (toK x z u (aK x z u k) k))) := by
    rw [vK_succ k]; rfl
  rw [eS]
  have hP : ∀ {c1 c2 : Prop} {to : Int}, toK x z u (aK x z u k) k = to → c1 → c2 → ∀ q : Prop, q → pL x z u (aK x z u k) k c1 c2 to q := fun e g1 g2 q hq => by
    subst e
    exact pL_ok hz hk hu hc hA.1 ht.1 ht.2 g1 g2 hq
  by_cases h1 : cut x u k < nI z.n
  · by_cases h2 : cut x u k > aK x z u k
    · have e : toK x z u (aK x z u k) k = cut x u k := by unfold toK; rw [if_pos h1, if_pos h2]
      rw [e] at hw hs ⊢
      exact roundT (vK_dead k) hG hw hs (hP e (decide_eq_true h1) (decide_eq_true h2)) (fun g => kE0tt ..) (fun g => kE1tt ..) (fun g => kR1tt ..)
    · have e : toK x z u (aK x z u k) k = aK x z u k := by unfold toK; rw [if_pos h1, if_neg h2]
      rw [e] at hw hs ⊢
      exact roundT (vK_dead k) hG hw hs (hP e (decide_eq_true h1) (decide_eq_false h2)) (fun g => kE0tf ..) (fun g => kE1tf ..) (fun g => kR1tf ..)
  · by_cases h2 : nI z.n > aK x z u k
    · have e : toK x z u (aK x z u k) k = nI z.n := by unfold toK; rw [if_neg h1, if_pos h2]
      rw [e] at hw hs ⊢
      exact roundT (vK_dead k) hG hw hs (hP e (decide_eq_false h1) (decide_eq_true h2)) (fun g => kE0ft ..) (fun g => kE1ft ..) (fun g => kR1ft ..)
    · have e : toK x z u (aK x z u k) k = aK x z u k := by unfold toK; rw [if_neg h1, if_neg h2]
      rw [e] at hw hs ⊢
      exact roundT (vK_dead k) hG hw hs (hP e (decide_eq_false h1) (decide_eq_false h2)) (fun g => kE0ff ..) (fun g => kE1ff ..) (fun g => kR1ff ..)
def sX (x : HX) (X : Nat → Int) (m : Mk) (key : Nat → Int) (z u : KY) (bx bY : Nat → Int) : St := sG x X key z u bx bY (aK x z u u.n) u.n (VX (vK u.n)) (hK x z u m u.n)
theorem loopC {x : HX} {X : Nat → Int} {m : Mk} {K : List Int} {key : Nat → Int} {z u : KY} {bx bY : Nat → Int} (hz : By x z) (hm : OkM K m []) (hz1 : z.n ≤ 1000) (hu : u.n ≤ 1000) (hc : u.n ≤ (x.C u.Q).length) (rd : Option Nat) :
    CodeOk Try.prog rd (.loop lH) (sEn x X m key z u bx bY) (.exit 0) (sX x X m key z u bx bY) := by
  have ex : Step Try.prog rd (sEn x X m key z u bx bY) lH (sKk x X m key z u bx bY u.n) (fun e t => e = .exit 0 ∧ t = sX x X m key z u bx bY) := by
    unfold sKk sX
    rcases hK x z u m u.n with ⟨g, b⟩
    cases b with
    | true => exact Step.stdT pg (KH_ok tagF VT0 CT0 _ x) (B := BX) (g := hpR x X g key bx bY) (kxR x X g key z u bx bY _ _ _ tagF VT0 CT0 (fun x y => keyF (intAt x) (intAt y)) rd) ⟨trivial, by simp only [nI, decide_eq_false_iff_not]; omega⟩ (show 297 ≤ 298 by decide) (tmH_dead (VX_dead (vK_dead _)) lvX) (hpR_ok _ _ _ _ _ _) rfl (oRX ..)
    | false => exact Step.stdT pg (KH_ok tagF VT0 CT0 _ x) (B := BX) (g := hpE x X g key bx bY) (kxE x X g key z u bx bY _ _ _ tagF VT0 CT0 (fun x y => keyF (intAt x) (intAt y)) rd) ⟨trivial, by simp only [nI, decide_eq_false_iff_not]; omega⟩ (Nat.le_refl _) (tmH_dead (VX_dead (vK_dead _)) lvX) (hpE_ok _ _ _ _ _ _) rfl (oEX ..)
  refine CodeOk.of_step (Step.loop (fun gg t => (gg = u.n + 1 ∧ t = sEn x X m key z u bx bY) ∨ ∃ j, j ≤ u.n ∧ gg = u.n - j ∧ t = sKk x X m key z u bx bY j) ?_ (u.n + 1) _ (.inl ⟨rfl, rfl⟩))
  rintro gg t (⟨rfl, rfl⟩ | ⟨j, j1, rfl, rfl⟩)
  · refine Step.viewM (viewE x X m key z u bx bY) ?_
    show Step Try.prog rd _ lH (sKk x X m key z u bx bY 0) _
    by_cases h : 0 = u.n
    · refine (show Step Try.prog rd _ lH (sKk x X m key z u bx bY 0) _ from by rw [h]; exact ex).mono ?_
      rintro e' t ⟨rfl, rfl⟩
      exact .inr ⟨(by intro x; cases x), rfl, rfl⟩
    · refine (round hz hm hz1 (by omega) hu hc rd).mono ?_
      rintro e' t ⟨rfl, rfl⟩
      exact .inl ⟨rfl, u.n - (0 + 1), by omega, .inr ⟨0 + 1, by omega, rfl, rfl⟩⟩
  · by_cases h : j = u.n
    · subst h
      refine ex.mono ?_
      rintro e' t ⟨rfl, rfl⟩
      exact .inr ⟨(by intro x; cases x), rfl, rfl⟩
    · refine (round hz hm hz1 (by omega) hu hc rd).mono ?_
      rintro e' t ⟨rfl, rfl⟩
      exact .inl ⟨rfl, u.n - (j + 1), by omega, .inr ⟨j + 1, by omega, rfl, rfl⟩⟩
end
end ho
end Go.Proofs.Ytkcngffpnnlmeaa
