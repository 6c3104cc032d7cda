/- Read off the code by the clean reading. -/
import Derived.Test.YtkcngffpnnlmeaaClnHb
import Derived.Test.YtkcngffpnnlmeaaClnQc
set_option linter.unusedVariables false
set_option linter.unusedSimpArgs false
set_option linter.deprecated false
set_option maxRecDepth 100000
namespace Go.Proofs.Ytkcngffpnnlmeaa
open Go.ChangeShapes Go.WideShapes Go.ChangeAt Go.RowKit Go.Cln
namespace ho
open ae ga gc
open gb (KT KT_ok tgN tgG zM zM_ok kW_key keyL_ok oKy nul OkKy keyL Mk putE putR asE asR asT OkM lft oCm oMm VF)
set_option linter.unusedVariables false
noncomputable section
def JL : List Nat := [31, 32, 33, 34, 35, 36, 37, 38, 39, 42, 43, 44, 47, 49, 51, 52]
def askH (Y : St) (f : FuncId) (c : Code) (s : St) : Option Ask2 := if f == 7 then some ⟨⟨JL, [], [], [4, 5]⟩, .exit 0, fun _ => Y⟩ else none
def K7 (G : gb.GT) (V : VT) (T : CT) (XF : LV → LV → Nat → Int) (x : HX) (Y : St) : Given := Given.asking2 (KH G V T XF x) Try.prog (askH Y)
theorem K7_ok (G : gb.GT) (V : VT) (T : CT) (XF : LV → LV → Nat → Int) (x : HX) (Y : St) : GivenOk Try.prog (K7 G V T XF x Y) := (KH_ok G V T XF x).asking2 _
def XG (G : gb.GT) (x : HX) (key : Nat → Int) (z : KY) : Nat → Int := G (kk key) (wk x z)
def c7E (G : gb.GT) (V : VT) (T : CT) (XF : LV → LV → Nat → Int) (x : HX) (key : Nat → Int) (z u : KY) (bx bY : Nat → Int) (g : Mk) (a : Int) (v : VF) (o : List (Option Bool)) : Option (Value × St) := call7 (K7 G V T XF x (sHE x (XG G x key z) g key z u bx bY a u.n v)) x key z u bx bY o
def c7R (G : gb.GT) (V : VT) (T : CT) (XF : LV → LV → Nat → Int) (x : HX) (key : Nat → Int) (z u : KY) (bx bY : Nat → Int) (g : Mk) (a : Int) (v : VF) (o : List (Option Bool)) : Option (Value × St) := call7 (K7 G V T XF x (sHR x (XG G x key z) g key z u bx bY a u.n v)) x key z u bx bY o
end
end ho
end Go.Proofs.Ytkcngffpnnlmeaa
namespace Go.Proofs.Ytkcngffpnnlmeaa
open Go.ChangeShapes Go.WideShapes Go.ChangeAt Go.RowKit Go.Cln
namespace ho
open ae ga gc
open gb (KT KT_ok tgN tgG zM zM_ok kW_key keyL_ok oKy nul OkKy keyL Mk putE putR asE asR asT OkM lft oCm oMm VF)
set_option linter.unusedVariables false
noncomputable section
def e16 (p : Prop) (f g : Nat → Int) : Prop := ((((((((((((((((p ∧ (f 0 == g 0) = true) ∧ (f 1 == g 1) = true) ∧ (f 2 == g 2) = true) ∧ (f 3 == g 3) = true) ∧ (f 4 == g 4) = true) ∧ (f 5 == g 5) = true) ∧ (f 6 == g 6) = true) ∧ (f 7 == g 7) = true) ∧ (f 8 == g 8) = true) ∧ (f 9 == g 9) = true) ∧ (f 10 == g 10) = true) ∧ (f 11 == g 11) = true) ∧ (f 12 == g 12) = true) ∧ (f 13 == g 13) = true) ∧ (f 14 == g 14) = true) ∧ (f 15 == g 15) = true)
theorem e16_of {p : Prop} {f g : Nat → Int} (e : ∀ j, j < 16 → f j = g j) (h : p) : e16 p f g := ⟨⟨⟨⟨⟨⟨⟨⟨⟨⟨⟨⟨⟨⟨⟨⟨h, by rw [e 0 (by decide)]; exact beq_self_eq_true _⟩, by rw [e 1 (by decide)]; exact beq_self_eq_true _⟩, by rw [e 2 (by decide)]; exact beq_self_eq_true _⟩, by rw [e 3 (by decide)]; exact beq_self_eq_true _⟩, by rw [e 4 (by decide)]; exact beq_self_eq_true _⟩, by rw [e 5 (by decide)]; exact beq_self_eq_true _⟩, by rw [e 6 (by decide)]; exact beq_self_eq_true _⟩, by rw [e 7 (by decide)]; exact beq_self_eq_true _⟩, by rw [e 8 (by decide)]; exact beq_self_eq_true _⟩, by rw [e 9 (by decide)]; exact beq_self_eq_true _⟩, by rw [e 10 (by decide)]; exact beq_self_eq_true _⟩, by rw [e 11 (by decide)]; exact beq_self_eq_true _⟩, by rw [e 12 (by decide)]; exact beq_self_eq_true _⟩, by rw [e 13 (by decide)]; exact beq_self_eq_true _⟩, by rw [e 14 (by decide)]; exact beq_self_eq_true _⟩, by rw [e 15 (by decide)]; exact beq_self_eq_true _⟩
def eB (T : CT) (key : Nat → Int) : LV := R16 (T.mkb (R176 (T.ks (R16 key))) Z16)
def fB (T : CT) (key : Nat → Int) : LV := R16 (T.db (eB T key))
def s12 (X : Nat → Int) : ByteArray := ⟨[UInt8.ofNat (X 0).toNat, UInt8.ofNat (X 1).toNat, UInt8.ofNat (X 2).toNat, UInt8.ofNat (X 3).toNat, UInt8.ofNat (X 4).toNat, UInt8.ofNat (X 5).toNat, UInt8.ofNat (X 6).toNat, UInt8.ofNat (X 7).toNat, UInt8.ofNat (X 8).toNat, UInt8.ofNat (X 9).toNat, UInt8.ofNat (X 10).toNat, UInt8.ofNat (X 11).toNat].toArray⟩
def SE (X : Nat → Int) : Prop := ((s12 X).toList == (s12 X).toList) = true
def wL (x : HX) (z : KY) (a : Int) : List Int := wo x z a (nI z.n)
def nL (z : KY) (a : Int) : Nat := ln a (nI z.n)
def qH (G : gb.GT) (V : VT) (x : HX) (key : Nat → Int) (z u : KY) (bx bY : Nat → Int) (a : Int) (Y : St) : Prop := (((((True ∧ decide (nI z.n > 200) = false) ∧ decide (nI u.n > 12) = false) ∧ qA G x key z) ∧ (V = VT0 ∧ V.ok (kW (keyL key)))) ∧ (∀ rd, CodeOk Try.prog rd (.loop lH) (sEn x (XG G x key z) (mZ V key) key z u bx bY) (.exit 0) Y)) ∧ (0 ≤ nI z.n ∧ nI z.n ≤ nI z.c ∧ 0 ≤ a ∧ a ≤ nI z.n)
def cX (XF : LV → LV → Nat → Int) : Prop := XF = fun x y => keyF (intAt x) (intAt y)
def cB (T : CT) (l : LV) : Prop := T = CT0 ∧ T.bs l
def qT (G : gb.GT) (T : CT) (XF : LV → LV → Nat → Int) (sq : Prop) (X : Nat → Int) (key bx bY : Nat → Int) (Tg : Nat → Int) (p : Prop) : Prop := (((e16 ((((((((((((((((e16 (e16 (e16 ((((((((((p ∧ (cB T (R16 key))) ∧ (cB T (R16 key))) ∧ (T = CT0)) ∧ (cB T (eB T key))) ∧ (cB T (fB T key))) ∧ (qB G key)) ∧ (cX XF)) ∧ (T = CT0)) ∧ (sq)) ∧ (cB T (fB T key))) (T.db (fB T key)) (T.db (fB T key))) (X) (Tg)) (G (kk key) (kk bx)) (T.mkb (R176 (T.ks (R16 key))) (R16 (XF (R16 bx) (fB T key))))) ∧ (SE X)) ∧ (SE X)) ∧ (SE X)) ∧ (SE X)) ∧ (SE X)) ∧ (cX XF)) ∧ (SE X)) ∧ (cB T (R16 (XF (R16 bx) (R16 bY))))) ∧ (SE X)) ∧ (cB T (R16 bx))) ∧ (SE X)) ∧ (cB T (R16 bY))) ∧ (SE X)) ∧ (cX XF)) ∧ (SE X)) (T.db (R16 (XF (R16 bx) (R16 bY)))) (XF (R16 (T.db (R16 bx))) (R16 (T.db (R16 bY))))) ∧ (SE X)) ∧ (True))
def oPre : List (Option Bool) := [none, none, some false, none, none, none, none, none, none, some false, none, none, some true]
def oPost : List (Option Bool) := [none, none, none, none, none, none, none, none, none, none, none, none, none, none, none, none, none, none, none, none, none, some true, some true, some true, some true, some true, some true, some true, some true, some true, some true, some true, some true, some true, some true, some true, some true, none, none, some true, some true, some true, some true, some true, some true, some true, some true, some true, some true, some true, some true, some true, some true, some true, some true, none, none, none, some true, some true, some true, some true, some true, some true, some true, some true, some true, some true, some true, some true, some true, some true, some true, some true, none, none, none, none, none, none, none, none, none, some true, some true, some true, some true, some true, some true, some true, some true, some true, some true, some true, some true, some true, some true, some true, some true, some true, some true, some true, some true, some true, some true, some true, some true, some true, some true, some true]
theorem lawR (G : gb.GT) (V : VT) (T : CT) (XF : LV → LV → Nat → Int) (x : HX) (key : Nat → Int) (z u : KY) (bx bY : Nat → Int) (g : Mk) (a : Int) (v : VF) : (c7R G V T XF x key z u bx bY g a v (oPre ++ (oPost))).map (fun r => (r.1, r.2.obl)) = some (.bool true, qT G T XF (qA G x key z) (XG G x key z) key bx bY (tgG V (putR V g (wL x z a) (nL z a))) ((qH G V x key z u bx bY a (sHR x (XG G x key z) g key z u bx bY a u.n v) ∧ asR V g (wL x z a) (nL z a)) ∧ asT V (putR V g (wL x z a) (nL z a)))) := by kernel_rfl
theorem lawE1 (G : gb.GT) (V : VT) (T : CT) (XF : LV → LV → Nat → Int) (x : HX) (key : Nat → Int) (z u : KY) (bx bY : Nat → Int) (g : Mk) (a : Int) (v : VF) : (c7E G V T XF x key z u bx bY g a v (oPre ++ (some true :: oPost))).map (fun r => (r.1, r.2.obl)) = some (.bool true, qT G T XF (qA G x key z) (XG G x key z) key bx bY (tgG V (putE V g (wL x z a) (nL z a))) ((qH G V x key z u bx bY a (sHE x (XG G x key z) g key z u bx bY a u.n v) ∧ asE V (wL x z a) (nL z a)) ∧ asT V (putE V g (wL x z a) (nL z a)))) := by kernel_rfl
theorem lawE0 (G : gb.GT) (V : VT) (T : CT) (XF : LV → LV → Nat → Int) (x : HX) (key : Nat → Int) (z u : KY) (bx bY : Nat → Int) (g : Mk) (a : Int) (v : VF) : (c7E G V T XF x key z u bx bY g a v (oPre ++ (some false :: oPost))).map (fun r => (r.1, r.2.obl)) = some (.bool true, qT G T XF (qA G x key z) (XG G x key z) key bx bY (tgN V g) ((qH G V x key z u bx bY a (sHE x (XG G x key z) g key z u bx bY a u.n v) ∧ nL z a = 0) ∧ V = VT0)) := by kernel_rfl
def cN7 (G : gb.GT) (V : VT) (T : CT) (XF : LV → LV → Nat → Int) (key bx bY : Nat → Int) (v w : Value) (k : Nat) (o : List (Option Bool)) : Option (Value × St) := (mk Try.prog (KH G V T XF ⟨fun _ => [], fun _ => []⟩) 300).call 7 [row16 key, v, w, row16 bx, row16 bY] (St.start k .leaf o)
end
end ho
end Go.Proofs.Ytkcngffpnnlmeaa
namespace Go.Proofs.Ytkcngffpnnlmeaa
open Go.ChangeShapes Go.WideShapes Go.ChangeAt Go.RowKit Go.Cln
namespace ho
open ae ga gc
open gb (KT KT_ok tgN tgG zM zM_ok kW_key keyL_ok oKy nul OkKy keyL Mk putE putR asE asR asT OkM lft oCm oMm VF)
set_option linter.unusedVariables false
noncomputable section
theorem d_fin : ∀ n : Fin 256, ∀ c : Fin 2, bv (w8 (w8 ((n.val : Int) * 2) + (c.val : Int))) = bv (n.val : Int) <<< 1 ^^^ bv (c.val : Int) := by decide +kernel
theorem s_fin : ∀ n : Fin 256, bv (n.val : Int) >>> 7 = bv ((n.val / 128 : Nat) : Int) := by decide +kernel
theorem w_fin : ∀ n : Fin 256, bv (w8 ((n.val : Int) * 2)) = bv (n.val : Int) <<< 1 := by decide +kernel
theorem m_fin : ∀ n : Fin 256, (bv (n.val : Int)).msb = decide ((n.val : Int) ≥ 128) := by decide +kernel
def tl (x : Nat → Int) (j : Nat) : BitVec 8 := if j < 15 then bv (x (j + 1)) >>> 7 else bif (bv (x 0)).msb then 135#8 else 0#8
theorem dF_bv {b : Nat → Int} (hb : B16 b) {j : Nat} (hj : j < 16) : bv (dF b j) = bv (b j) <<< 1 ^^^ tl b j := by
  obtain ⟨n, hn⟩ := fin_of (hb j hj).1 (hb j hj).2
  unfold dF tl
  by_cases h15 : j < 15
  · have e : (if b 0 ≥ 128 then rT b j else rF b j) = rD b j := by
      unfold rT rF
      rw [if_pos h15, if_pos h15]
      split <;> rfl
    rw [e, if_pos h15]
    have h1 := hb (j + 1) (by omega)
    obtain ⟨m, hm⟩ := fin_of h1.1 h1.2
    have d : w8 ((b (j + 1)).tdiv 128) = ((m.val / 128 : Nat) : Int) := by rw [Int.tdiv_eq_ediv_of_nonneg h1.1]; unfold w8; rw [IntKind.wrap_u8]; omega
    have c2 : m.val / 128 < 2 := by omega
    unfold rD
    rw [d, hn, hm, s_fin m]
    exact d_fin n ⟨m.val / 128, c2⟩
  · obtain ⟨m, hm⟩ := fin_of (hb 0 (by decide)).1 (hb 0 (by decide)).2
    unfold rT rF
    rw [if_neg h15, if_neg h15, if_neg h15, hm, m_fin m]
    by_cases hc : (m.val : Int) ≥ 128
    · rw [if_pos hc, decide_eq_true hc, bv_xr8, hn, w_fin n]; rfl
    · rw [if_neg hc, decide_eq_false hc, hn, w_fin n]
      show _ = _ ^^^ 0#8
      rw [BitVec.xor_zero]
theorem tl_xor (x y : Nat → Int) (j : Nat) : tl (fun i => xr8 (x i) (y i)) j = tl x j ^^^ tl y j := by
  unfold tl
  split
  · rw [bv_xr8, BitVec.ushiftRight_xor_distrib]
  · show (bif (bv (xr8 (x 0) (y 0))).msb then 135#8 else 0#8) = _
    rw [bv_xr8, BitVec.msb_xor]
    cases (bv (x 0)).msb <;> cases (bv (y 0)).msb <;> rfl
theorem dF_xor {x y : Nat → Int} (hx : B16 x) (hy : B16 y) {j : Nat} (hj : j < 16) : dF (fun i => xr8 (x i) (y i)) j = xr8 (dF x j) (dF y j) := by
  have hxy : B16 fun i => xr8 (x i) (y i) := fun i _ => xr8_in _ _
  refine bv_inj (dF_in j hj).1 (dF_in j hj).2 (xr8_in _ _).1 (xr8_in _ _).2 ?_
  rw [bv_xr8, dF_bv hx hj, dF_bv hy hj, dF_bv hxy hj, tl_xor]
  show bv (xr8 (x j) (y j)) <<< 1 ^^^ _ = _
  rw [bv_xr8, BitVec.shiftLeft_xor_distrib]
  simp only [BitVec.xor_assoc]
  congr 1
  rw [← BitVec.xor_assoc, ← BitVec.xor_assoc, BitVec.xor_comm (tl x j)]
theorem keyOf_L (key : Nat → Int) {j : Nat} (hj : j < 16) : ae.keyOf (keyL key) j = key j := by
  have hc : j = 0 ∨ j = 1 ∨ j = 2 ∨ j = 3 ∨ j = 4 ∨ j = 5 ∨ j = 6 ∨ j = 7 ∨ j = 8 ∨ j = 9 ∨ j = 10 ∨ j = 11 ∨ j = 12 ∨ j = 13 ∨ j = 14 ∨ j = 15 := by omega
  rcases hc with rfl | rfl | rfl | rfl | rfl | rfl | rfl | rfl | rfl | rfl | rfl | rfl | rfl | rfl | rfl | rfl <;> rfl
theorem kk_eq (key : Nat → Int) : kk key = keyL key := rfl
theorem eB_eq (key : Nat → Int) : eB CT0 key = R16 (enc (keyL key) fun _ => 0) := by
  have e : R16 (ae.keyOf (keyL key)) = R16 key := R16_congr fun j hj => keyOf_L key hj
  have := eL_eq (keyL key)
  unfold eL kRw at this
  rw [e] at this
  exact this
theorem fB_eq (key : Nat → Int) : fB CT0 key = R16 (fst (keyL key)) := by
  unfold fB
  rw [eB_eq]
  exact db_at _
theorem bs_row {f : Nat → Int} (h : OkKy f) : cB CT0 (R16 f) := ⟨rfl, bs_at h⟩
theorem cB_e (key : Nat → Int) : cB CT0 (eB CT0 key) := ⟨rfl, by rw [eB_eq]; exact bs_at (enc_in _ _)⟩
theorem cB_f (key : Nat → Int) : cB CT0 (fB CT0 key) := ⟨rfl, by rw [fB_eq]; exact bs_at dF_in⟩
def XF0 : LV → LV → Nat → Int := fun x y => keyF (intAt x) (intAt y)
theorem cB_x (bx bY : Nat → Int) : cB CT0 (R16 (XF0 (R16 bx) (R16 bY))) := ⟨rfl, bs_at fun j _ => xr8_in _ _⟩
theorem row_at {f g : Nat → Int} (h : row16 f = row16 g) {j : Nat} (hj : j < 16) : f j = g j := by
  have h1 : (R16 f).toArray = (R16 g).toArray := by injection h
  have h2 : R16 f = R16 g := by simpa using congrArg Array.toList h1
  rw [← at16 (f := f) hj, h2, at16 hj]
theorem x0_fin : ∀ n : Fin 256, xr8 0 (n.val : Int) = (n.val : Int) := by decide +kernel
theorem xr8_0 {v : Int} (h0 : 0 ≤ v) (h1 : v < 256) : xr8 0 v = v := by
  obtain ⟨n, rfl⟩ := fin_of h0 h1; exact x0_fin n
theorem kL_at (bx : Nat → Int) {j : Nat} (hj : j < 16) : (keyL bx).getD j 0 = bx j := by
  have hc : j = 0 ∨ j = 1 ∨ j = 2 ∨ j = 3 ∨ j = 4 ∨ j = 5 ∨ j = 6 ∨ j = 7 ∨ j = 8 ∨ j = 9 ∨ j = 10 ∨ j = 11 ∨ j = 12 ∨ j = 13 ∨ j = 14 ∨ j = 15 := by omega
  rcases hc with rfl | rfl | rfl | rfl | rfl | rfl | rfl | rfl | rfl | rfl | rfl | rfl | rfl | rfl | rfl | rfl <;> rfl
theorem tagF_def (K M : List Int) : tagF K M = enc K (keyF (chn K M ((M.length - 1) / 16)) (keyF (lst ((M.drop (qO M.length)).take (qR M.length)) (qR M.length)) (by' (fst K) (snd K) (qR M.length)))) := rfl
theorem mkb_def (ks x : LV) : CT0.mkb ks x = mkF BOX (intAt ks) (intAt x) := rfl
theorem ks_def (x : LV) : CT0.ks x = ksF BOX (intAt x) := rfl
theorem xf_def (x y : LV) (j : Nat) : XF0 x y j = xr8 (intAt x j) (intAt y j) := rfl
theorem enc_def (K : List Int) (x : Nat → Int) : enc K x = mkF BOX (ksF BOX (ae.keyOf K)) x := rfl
theorem tag16 (K M : List Int) (h : M.length = 16) : tagF K M = enc K (keyF Z0 (keyF (lst M 16) (fst K))) := by
  have q1 : qO 16 = 0 := rfl
  have q2 : qR 16 = 16 := rfl
  have q3 : (16 - 1) / 16 = 0 := rfl
  have q4 : by' (fst K) (snd K) 16 = fst K := if_pos rfl
  have q5 : chn K M 0 = Z0 := rfl
  rw [tagF_def, h, q1, q2, q3, q4, q5, List.drop_zero, List.take_of_length_le (by omega)]
theorem one16 (key bx : Nat → Int) {j : Nat} (hj : j < 16) : tagF (kk key) (kk bx) j = CT0.mkb (R176 (CT0.ks (R16 key))) (R16 (XF0 (R16 bx) (fB CT0 key))) j := by
  rw [kk_eq, kk_eq, fB_eq, tag16 (keyL key) (keyL bx) rfl, mkb_def, enc_def]
  refine mkF_congr (fun j hj => ?_) (fun j hj => ?_) j hj
  · rw [at176 hj, ks_def]
    exact ksF_congr (fun j hj => by rw [keyOf_L key hj, at16 hj]) j
  · rw [at16 hj, xf_def, at16 hj, at16 hj]
    show xr8 0 (xr8 (lst (keyL bx) 16 j) (fst (keyL key) j)) = _
    rw [xr8_0 (xr8_in _ _).1 (xr8_in _ _).2]
    unfold lst
    rw [if_pos hj, kL_at bx hj]
theorem lin (bx bY : Nat → Int) (hx : OkKy bx) (hy : OkKy bY) {j : Nat} (hj : j < 16) : CT0.db (R16 (XF0 (R16 bx) (R16 bY))) j = XF0 (R16 (CT0.db (R16 bx))) (R16 (CT0.db (R16 bY))) j := by
  show dF (intAt (R16 (keyF (intAt (R16 bx)) (intAt (R16 bY))))) j = xr8 (intAt (R16 (dF (intAt (R16 bx)))) j) (intAt (R16 (dF (intAt (R16 bY)))) j)
  rw [at16 hj, at16 hj, rT_congr (b' := fun i => xr8 (bx i) (bY i)) (fun j hj => by rw [at16 hj]; unfold keyF; rw [at16 hj, at16 hj]) hj, rT_congr (b := intAt (R16 bx)) (b' := bx) (fun j hj => at16 hj) hj, rT_congr (b := intAt (R16 bY)) (b' := bY) (fun j hj => at16 hj) hj]
  exact dF_xor hx hy hj
end
end ho
end Go.Proofs.Ytkcngffpnnlmeaa
namespace Go.Proofs.Ytkcngffpnnlmeaa
open Go.ChangeShapes Go.WideShapes Go.ChangeAt Go.RowKit Go.Cln
namespace ho
open ae ga gc
open gb (KT KT_ok tgN tgG zM zM_ok kW_key keyL_ok oKy nul OkKy keyL Mk putE putR asE asR asT OkM lft oCm oMm VF)
set_option linter.unusedVariables false
noncomputable section
def qNil (G : gb.GT) (V : VT) (key : Nat → Int) : Prop := ((True ∧ qB G key) ∧ (V = VT0 ∧ V.ok (kW (keyL key)))) ∧ V = VT0
def oN : List (Option Bool) := List.replicate 44 none ++ oPost
def pN7 (G : gb.GT) (V : VT) (T : CT) (XF : LV → LV → Nat → Int) (key bx bY : Nat → Int) : Prop := qT G T XF (qB G key) (G (kk key) []) key bx bY (tgN V (mZ V key)) (qNil G V key)
def qZil (G : gb.GT) (V : VT) (key : Nat → Int) (c : Nat) : Prop := (((True ∧ qB G key) ∧ (V = VT0 ∧ V.ok (kW (keyL key)))) ∧ (0 ≤ nI 0 ∧ nI 0 ≤ nI c ∧ (0 : Int) ≤ 0 ∧ 0 ≤ nI 0)) ∧ V = VT0
def oZ7 : List (Option Bool) := List.replicate 13 none ++ (some true :: (List.replicate 31 none ++ oPost))
def pZ7 (G : gb.GT) (V : VT) (T : CT) (XF : LV → LV → Nat → Int) (key bx bY : Nat → Int) (c : Nat) : Prop := qT G T XF (qB G key) (G (kk key) []) key bx bY (tgN V (mZ V key)) (qZil G V key c)
theorem lawNnn (G : gb.GT) (V : VT) (T : CT) (XF : LV → LV → Nat → Int) (key bx bY : Nat → Int) : (cN7 G V T XF key bx bY (.slice none 0 0) (.slice none 0 0) 0 oN).map (fun r => (r.1, r.2.obl)) = some (.bool true, pN7 G V T XF key bx bY) := by kernel_rfl
theorem lawNzn (G : gb.GT) (V : VT) (T : CT) (XF : LV → LV → Nat → Int) (key bx bY : Nat → Int) (c : Nat) : (cN7 G V T XF key bx bY (zs 0 c) (.slice none 0 0) 1 oZ7).map (fun r => (r.1, r.2.obl)) = some (.bool true, pZ7 G V T XF key bx bY c) := by kernel_rfl
theorem lawNnz (G : gb.GT) (V : VT) (T : CT) (XF : LV → LV → Nat → Int) (key bx bY : Nat → Int) (d : Nat) : (cN7 G V T XF key bx bY (.slice none 0 0) (zs 0 d) 1 oN).map (fun r => (r.1, r.2.obl)) = some (.bool true, pN7 G V T XF key bx bY) := by kernel_rfl
theorem lawNzz (G : gb.GT) (V : VT) (T : CT) (XF : LV → LV → Nat → Int) (key bx bY : Nat → Int) (c d : Nat) : (cN7 G V T XF key bx bY (zs 0 c) (zs 1 d) 2 oZ7).map (fun r => (r.1, r.2.obl)) = some (.bool true, pZ7 G V T XF key bx bY c) := by kernel_rfl
end
end ho
end Go.Proofs.Ytkcngffpnnlmeaa
namespace Go.Proofs.Ytkcngffpnnlmeaa
open Go.ChangeShapes Go.WideShapes Go.ChangeAt Go.RowKit Go.Cln
namespace ho
open ae ga gc
open gb (KT KT_ok tgN tgG zM zM_ok kW_key keyL_ok oKy nul OkKy keyL Mk putE putR asE asR asT OkM lft oCm oMm VF)
set_option linter.unusedVariables false
noncomputable section
theorem big1 (G : gb.GT) (V : VT) (T : CT) (XF : LV → LV → Nat → Int) (x : HX) (key : Nat → Int) (z u : KY) (bx bY : Nat → Int) : (call7 (KH G V T XF x) x key z u bx bY [none, none, some true]).map (fun r => (r.1, r.2.obl)) = some (.bool true, (True ∧ decide (nI z.n > 200) = true) ∧ True) := by kernel_rfl
theorem big2 (G : gb.GT) (V : VT) (T : CT) (XF : LV → LV → Nat → Int) (x : HX) (key : Nat → Int) (z u : KY) (bx bY : Nat → Int) : (call7 (KH G V T XF x) x key z u bx bY [none, none, some false, none, none, none, none, none, none, some true]).map (fun r => (r.1, r.2.obl)) = some (.bool true, ((True ∧ decide (nI z.n > 200) = false) ∧ decide (nI u.n > 12) = true) ∧ True) := by kernel_rfl
def wordsAt : List Value → List Int
  | .int .i64 y :: l => y :: wordsAt l
  | _ => []
theorem wordsAt_get : ∀ {l : List Value} {j : Nat} {y : Int}, (wordsAt l)[j]? = some y → l[j]? = some (.int .i64 y)
  | [], j, y, h => by simp [wordsAt] at h
  | v :: l, j, y, h => by
    unfold wordsAt at h
    split at h
    · rename_i z r e
      cases e
      cases j with
      | zero => simp only [List.getElem?_cons_zero, Option.some.injEq] at h ⊢; rw [h]
      | succ j => simp only [List.getElem?_cons_succ] at h ⊢; exact wordsAt_get h
    · simp at h
theorem wordsAt_len : ∀ {l : List Value} {m : Nat}, (∀ j, j < m → ∃ y, l[j]? = some (.int .i64 y)) → m ≤ (wordsAt l).length
  | l, 0, _ => Nat.zero_le _
  | [], m + 1, h => by obtain ⟨y, hy⟩ := h 0 (by omega); simp at hy
  | v :: l, m + 1, h => by
    obtain ⟨y, hy⟩ := h 0 (by omega)
    simp only [List.getElem?_cons_zero, Option.some.injEq] at hy
    subst hy
    have := wordsAt_len (l := l) (m := m) fun j hj => by
      obtain ⟨z, hz⟩ := h (j + 1) (by omega)
      exact ⟨z, by simpa using hz⟩
    simp only [wordsAt, List.length_cons]; omega
def worldI (W : World) (P : Nat) : List Int := match W.heap[blkOf P]? with
  | some (.cells pc _ _) => wordsAt (pc.toList.drop (baseOf P))
  | _ => []
theorem worldI_get {W : World} {P j : Nat} {y : Int} (h : (worldI W P)[j]? = some y) : ∃ pc t fr, W.heap[blkOf P]? = some (.cells pc t fr) ∧ pc[baseOf P + j]? = some (.int .i64 y) := by
  unfold worldI at h
  split at h
  · rename_i pc t fr hc
    have := wordsAt_get h
    rw [List.getElem?_drop] at this
    exact ⟨pc, t, fr, hc, by simpa using this⟩
  · simp at h
theorem worldI_row {W : World} {b o m : Nat} {f : Nat → Int} (h : ∀ j, j < m → W.cell? ⟨b, o + j, none⟩ = some (.int .i64 (f j)) ∧ (Lit.int .i64 (f j)).wf = true) (h0 : m ≠ 0) : m ≤ (worldI W (plc b o)).length := by
  obtain ⟨pc, t, fr, k1, _⟩ := cell_in (h 0 (by omega)).1
  have at_ : ∀ j, j < m → pc[o + j]? = some (.int .i64 (f j)) := fun j hj => by
    obtain ⟨pc', t', fr', q1, q2⟩ := cell_in (h j hj).1
    rw [k1] at q1; cases q1; exact q2
  unfold worldI
  rw [blkOf_plc, baseOf_plc, k1]
  refine wordsAt_len fun j hj => ⟨f j, ?_⟩
  rw [List.getElem?_drop]
  simpa using at_ j hj
def hxW (W : World) : HX := ⟨worldB W, worldI W⟩
theorem startH {W : World} (hW : 0 < W.heap.size) (orc : List (Option Bool)) : ∃ ρ : Nat → PB, Hs (smSt 1 [some (.fam (hxW W).F)] orc) ρ W := by
  have get : ∀ (k : Nat) (ob : Ob), (smSt 1 [some (.fam (hxW W).F)] orc).heap.get k = some ob → k = 0 ∧ ob = .fam (hxW W).F := fun k ob hk => by
    have hk : (Tr.ofL [some (.fam (hxW W).F)]).get k = some ob := hk
    rw [ofL_get (by simp)] at hk
    rcases k with _ | k
    · simp only [hget, List.getElem?_cons_zero] at hk
      cases hk; exact ⟨rfl, rfl⟩
    · simp [hget] at hk
  have d0 : Dm (smSt 1 [some (.fam (hxW W).F)] orc) 0 := ⟨(show 0 < 1 by decide), rfl⟩
  refine ⟨fun _ => ⟨0, 0, 0⟩, ⟨⟨fun k ob hk => ?_, fun k k' ob ob' hk hk' hm _ => ?_, fun k k' ob ob' B hk hB hk' hm => ?_⟩, fun _ _ => rfl, ⟨Nat.le_refl _, fun z hz => by simp [smSt] at hz⟩⟩⟩
  · obtain ⟨rfl, rfl⟩ := get k ob hk
    refine ⟨d0, fun hm => absurd (show 1 ≤ 0 from hm) (by omega), hW, fun g P i v hv => ?_⟩
    unfold HX.F at hv
    split at hv
    · simp only [Cells.get, Option.map_eq_some_iff] at hv
      obtain ⟨y, hy, rfl⟩ := hv
      obtain ⟨pc, t, fr, k1, k2⟩ := worldI_get hy
      exact ⟨pc, t, fr, _, k1, k2, .same rfl, rfl⟩
    · simp only [Cells.get, Option.map_eq_some_iff] at hv
      obtain ⟨y, hy, rfl⟩ := hv
      obtain ⟨pc, t, fr, k1, k2⟩ := worldB_get hy
      exact ⟨pc, t, fr, _, k1, k2, .same rfl, rfl⟩
  · have hm : 1 ≤ k ∨ 1 ≤ k' := hm
    have e1 : k < 1 := by have := (get k ob hk).1; omega
    have e2 : k' < 1 := by have := (get k' ob' hk').1; omega
    omega
  · have hm : 1 ≤ k' := hm
    have e2 : k' < 1 := by have := (get k' ob' hk').1; omega
    omega
theorem by_of {W : World} {a : Option Addr} {n c : Nat} (s : (a = none ∧ n = 0 ∧ c = 0) ∨ ∃ b o, a = some ⟨b, o, none⟩ ∧ n ≤ c ∧ (c : Int) ≤ 9223372036854775807)
    (z : n = 0 ∨ ∃ (b o : Nat) (f : Nat → Int), a = some ⟨b, o, none⟩ ∧ b < W.heap.size ∧ ∀ j, j < n → W.cell? ⟨b, o + j, none⟩ = some (.int .u8 (f j)) ∧ (Lit.int .u8 (f j)).wf = true) :
    ∃ y : KY, AbsOk y.Q 0 y.n y.c (.slice a n c) ∧ By (hxW W) y := by
  by_cases h0 : n = 0
  · subst h0
    have e : wk (hxW W) ⟨plc 0 0, 0, 0⟩ = [] := by
      show ((worldB W (plc 0 0)).drop 0).take 0 = []
      rw [List.take_zero]
    exact ⟨⟨plc 0 0, 0, 0⟩, AbsOk.none, ⟨(by rw [e]; rfl), Nat.le_refl _⟩⟩
  · rcases z with h | ⟨b, o, f, rfl, hb, hf⟩
    · exact absurd h h0
    · have hc : n ≤ c := by
        rcases s with ⟨h, _⟩ | ⟨_, _, _, hc, _⟩
        · cases h
        · exact hc
      obtain ⟨q1, q2⟩ := worldB_row hf h0
      refine ⟨⟨plc b o, n, c⟩, AbsOk.of hc, ⟨?_, hc⟩⟩
      show n = (((worldB W (plc b o)).drop 0).take n).length
      rw [List.drop_zero]; exact q1.symm
theorem cuts_of {W : World} {a : Option Addr} {n c : Nat} (s : (a = none ∧ n = 0 ∧ c = 0) ∨ ∃ b o, a = some ⟨b, o, none⟩ ∧ n ≤ c ∧ (c : Int) ≤ 9223372036854775807)
    (z : n = 0 ∨ ∃ (b o : Nat) (f : Nat → Int), a = some ⟨b, o, none⟩ ∧ b < W.heap.size ∧ ∀ j, j < n → W.cell? ⟨b, o + j, none⟩ = some (.int .i64 (f j)) ∧ (Lit.int .i64 (f j)).wf = true) :
    ∃ u : KY, AbsOk u.Q 0 u.n u.c (.slice a n c) ∧ u.n ≤ ((hxW W).C u.Q).length := by
  by_cases h0 : n = 0
  · subst h0
    exact ⟨⟨plc 0 0, 0, 0⟩, AbsOk.none, Nat.zero_le _⟩
  · rcases z with h | ⟨b, o, f, rfl, hb, hf⟩
    · exact absurd h h0
    · have hc : n ≤ c := by
        rcases s with ⟨h, _⟩ | ⟨_, _, _, hc, _⟩
        · cases h
        · exact hc
      exact ⟨⟨plc b o, n, c⟩, AbsOk.of hc, worldI_row hf h0⟩
theorem qT_ok {G : gb.GT} {sq : Prop} {X Tg key bx bY : Nat → Int} {p : Prop} (hG : G = tagF) (hk : OkKy key) (hx : OkKy bx) (hy : OkKy bY) (hs : sq) (hp : p) (e : ∀ j, j < 16 → X j = Tg j) : qT G CT0 XF0 sq X key bx bY Tg p := by
  subst hG
  have b1 : cB CT0 (R16 key) := bs_row hk
  have s : SE X := beq_self_eq_true _
  exact ⟨⟨e16_of (fun j hj => lin bx bY hx hy hj) ⟨⟨⟨⟨⟨⟨⟨⟨⟨⟨⟨⟨⟨⟨⟨e16_of (fun j hj => one16 key bx hj) (e16_of e (e16_of (fun _ _ => rfl) ⟨⟨⟨⟨⟨⟨⟨⟨⟨⟨hp, b1⟩, b1⟩, rfl⟩, cB_e key⟩, cB_f key⟩, rfl, okR hk⟩, rfl⟩, rfl⟩, hs⟩, cB_f key⟩)), s⟩, s⟩, s⟩, s⟩, s⟩, rfl⟩, s⟩, cB_x bx bY⟩, s⟩, bs_row hx⟩, s⟩, bs_row hy⟩, s⟩, rfl⟩, s⟩, s⟩, trivial⟩
structure Small (x : HX) (z u : KY) : Prop where
  by_z : By x z
  c : u.n ≤ (x.C u.Q).length
  z2 : z.n ≤ 200
  u12 : u.n ≤ 12
theorem qH_ok {x : HX} {z u : KY} {key bx bY : Nat → Int} (h : Small x z u) (hk : OkKy key) : qH tagF VT0 x key z u bx bY (aK x z u u.n) (sX x (XG tagF x key z) (mZ VT0 key) key z u bx bY) := by
  have z2 := h.z2
  have u12 := h.u12
  have hA := aK_le x z u u.n
  have hr := h.by_z.room
  refine ⟨⟨⟨⟨⟨⟨trivial, ?_⟩, ?_⟩, rfl, rfl, okR hk, h.by_z, by omega⟩, rfl, by rw [kW_key]; exact keyL_ok hk⟩, fun rd => loopC (K := kW (keyL key)) h.by_z (zM_ok _) (by omega) (by omega) h.c rd⟩, ?_, ?_, hA.1, hA.2⟩
  · simp only [nI, decide_eq_false_iff_not]; omega
  · simp only [nI, decide_eq_false_iff_not]; omega
  · simp only [nI]; omega
  · simp only [nI]; omega
theorem XG_eq {x : HX} {key : Nat → Int} {z : KY} {Tg : Nat → Int} (h : row16 Tg = row16 (tagF (kW (keyL key)) (wk x z))) : ∀ j, j < 16 → XG tagF x key z j = Tg j := fun j hj => by
  rw [row_at h hj, kW_key]; rfl
theorem holdsW {W : World} (hW : 0 < W.heap.size) {v1 v2 : Value} {z u : KY} {key bx bY : Nat → Int} (hk : OkKy key) (hx : OkKy bx) (hy : OkKy bY) (u1 : AbsOk z.Q 0 z.n z.c v1) (u2 : AbsOk u.Q 0 u.n u.c v2) (hz : By (hxW W) z) (hu : u.n ≤ ((hxW W).C u.Q).length) :
    Calls Try.prog 7 #[row16 key, v1, v2, row16 bx, row16 bY] W fun e w' => e = .returned (.bool true) ∧ Below W.heap.size W w' := by
  have fin : ∀ (K : Given) (hK : GivenOk Try.prog K) (orc : List (Option Bool)) (p : Prop), (call7 K (hxW W) key z u bx bY orc).map (fun r => (r.1, r.2.obl)) = some (.bool true, p) → p →
      Calls Try.prog 7 #[row16 key, v1, v2, row16 bx, row16 bY] W fun e w' => e = .returned (.bool true) ∧ Below W.heap.size W w' := fun K hK orc p hr hp => by
    obtain ⟨ρ, g1⟩ := startH hW orc
    have d0 : Dm (smSt 1 [some (.fam (hxW W).F)] orc) 0 := ⟨(show 0 < 1 by decide), rfl⟩
    exact ranG pg hK (ρ := ρ) hr hp rfl g1 (VL.cons (.of_flat rfl) (VL.cons (.abs d0 rfl u1) (VL.cons (.abs d0 rfl u2) (VL.cons (.of_flat rfl) (VL.cons (.of_flat rfl) VL.nil)))))
  have kx := KH_ok tagF VT0 CT0 XF0 (hxW W)
  by_cases h6 : nI z.n > 200
  · exact fin _ kx _ _ (big1 ..) ⟨⟨trivial, decide_eq_true h6⟩, trivial⟩
  by_cases h7 : nI u.n > 12
  · exact fin _ kx _ _ (big2 ..) ⟨⟨⟨trivial, decide_eq_false h6⟩, decide_eq_true h7⟩, trivial⟩
  have h : Small (hxW W) z u := ⟨hz, hu, by unfold nI at h6; omega, by unfold nI at h7; omega⟩
  have hH := qH_ok (bx := bx) (bY := bY) h hk
  have hG := hK_ok (u := u) hz (zM_ok (kW (keyL key))) u.n
  have hA := aK_le (hxW W) z u u.n
  have z2 := h.z2
  have hl : (wL (hxW W) z (aK (hxW W) z u u.n)).length = nL z (aK (hxW W) z u u.n) := wo_len hz hA.2 (Int.le_refl _)
  have hN : nL z (aK (hxW W) z u u.n) ≤ 900000 := by unfold nL ln nI; omega
  have hall : (wk (hxW W) z).take (nI z.n).toNat = wk (hxW W) z := List.take_of_length_le (by rw [← hz.len]; unfold nI; omega)
  have ht := wo_take hz hA.2 (Int.le_refl (nI z.n))
  rw [hall] at ht
  have sA : qA tagF (hxW W) key z := ⟨rfl, rfl, okR hk, hz, by omega⟩
  have KK : GivenOk Try.prog (K7 tagF VT0 CT0 XF0 (hxW W) (sX (hxW W) (XG tagF (hxW W) key z) (mZ VT0 key) key z u bx bY)) := K7_ok ..
  unfold sX at hH KK
  rcases hg : hK (hxW W) z u (mZ VT0 key) u.n with ⟨g, b⟩
  have hg' : hK (hxW W) z u (zM VT0 (kW (keyL key))) u.n = (g, b) := hg
  rw [hg'] at hG
  rw [hg] at hH KK
  obtain ⟨h1, h2, h3⟩ := hG
  cases b with
  | true =>
    have hp := h1.putR (h2 rfl) hl
    have ht' : (wk (hxW W) z).take (aK (hxW W) z u u.n).toNat ++ wL (hxW W) z (aK (hxW W) z u u.n) = wk (hxW W) z := ht
    rw [ht'] at hp
    refine fin _ KK _ _ (lawR tagF VT0 CT0 XF0 (hxW W) key z u bx bY g (aK (hxW W) z u u.n) (VX (vK u.n))) (qT_ok rfl hk hx hy sA ⟨⟨hH, h1.asR (h2 rfl) hl hN⟩, hp.asT ?_⟩ (XG_eq hp.tag))
    have := congrArg List.length ht'
    rw [List.length_append] at this
    have := h2 rfl
    omega
  | false =>
    have e0 := h3 rfl
    rw [e0] at h1
    have ht' : (wk (hxW W) z).take (aK (hxW W) z u u.n).toNat ++ wL (hxW W) z (aK (hxW W) z u u.n) = wk (hxW W) z := ht
    have e0' : (wk (hxW W) z).take (aK (hxW W) z u u.n).toNat = [] := e0
    rw [e0', List.nil_append] at ht'
    by_cases hn : nL z (aK (hxW W) z u u.n) = 0
    · have ew : wk (hxW W) z = [] := by rw [← ht']; exact List.eq_nil_of_length_eq_zero (by omega)
      exact fin _ KK _ _ (lawE0 tagF VT0 CT0 XF0 (hxW W) key z u bx bY g (aK (hxW W) z u u.n) (VX (vK u.n))) (qT_ok rfl hk hx hy sA ⟨⟨hH, hn⟩, rfl⟩ (XG_eq (by rw [ew]; exact h1.tagN)))
    · have hp0 := h1.putE hl (by omega)
      have hp : OkM (kW (keyL key)) (putE VT0 g (wL (hxW W) z (aK (hxW W) z u u.n)) (nL z (aK (hxW W) z u u.n))) (wk (hxW W) z) := by
        rw [← ht']; exact hp0
      exact fin _ KK _ _ (lawE1 tagF VT0 CT0 XF0 (hxW W) key z u bx bY g (aK (hxW W) z u u.n) (VX (vK u.n))) (qT_ok rfl hk hx hy sA ⟨⟨hH, OkM.asE (K := kW (keyL key)) (g := g) hl (by omega) (by omega)⟩, hp.asT (by rw [← ht']; omega)⟩ (XG_eq hp.tag))
theorem byte_ok {y : Nat → Int} (w0 : ∀ j, j < 16 → (Lit.int .u8 (y j)).wf = true) : OkKy y := fun j hj => by
  have h : IntKind.u8.min ≤ y j ∧ y j ≤ IntKind.u8.max := by simpa [Lit.wf] using w0 j hj
  have e1 : IntKind.u8.min = 0 := by decide
  have e2 : IntKind.u8.max = 255 := by decide
  rw [e1, e2] at h; omega
theorem nil_ok {key bx bY : Nat → Int} (hk : OkKy key) (hx : OkKy bx) (hy : OkKy bY) : pN7 tagF VT0 CT0 XF0 key bx bY :=
  qT_ok rfl hk hx hy ⟨rfl, okR hk⟩ ⟨⟨⟨trivial, rfl, okR hk⟩, rfl, by rw [kW_key]; exact keyL_ok hk⟩, rfl⟩ fun j hj => by
    show tagF (kk key) [] j = tgN VT0 (zM VT0 (kW (keyL key))) j
    rw [row_at (zM_ok (kW (keyL key))).tagN hj, kW_key]; rfl
theorem zil_ok {key bx bY : Nat → Int} (c : Nat) (hk : OkKy key) (hx : OkKy bx) (hy : OkKy bY) : pZ7 tagF VT0 CT0 XF0 key bx bY c :=
  qT_ok rfl hk hx hy ⟨rfl, okR hk⟩ ⟨⟨⟨⟨trivial, rfl, okR hk⟩, rfl, by rw [kW_key]; exact keyL_ok hk⟩, by simp only [nI]; omega⟩, rfl⟩ fun j hj => by
    show tagF (kk key) [] j = tgN VT0 (zM VT0 (kW (keyL key))) j
    rw [row_at (zM_ok (kW (keyL key))).tagN hj, kW_key]; rfl
theorem cmacHolds (W : World) (key : Nat → Int) (w0 : ∀ j, j < 16 → (Lit.int .u8 (key j)).wf = true)
    (a1 : Option Addr) (n1 c1 : Nat) (s1 : (a1 = none ∧ n1 = 0 ∧ c1 = 0) ∨ ∃ b o, a1 = some ⟨b, o, none⟩ ∧ n1 ≤ c1 ∧ (c1 : Int) ≤ 9223372036854775807)
    (z1 : n1 = 0 ∨ ∃ (b o : Nat) (f : Nat → Int), a1 = some ⟨b, o, none⟩ ∧ b < W.heap.size ∧ ∀ j, j < n1 → W.cell? ⟨b, o + j, none⟩ = some (.int .u8 (f j)) ∧ (Lit.int .u8 (f j)).wf = true)
    (a2 : Option Addr) (n2 c2 : Nat) (s2 : (a2 = none ∧ n2 = 0 ∧ c2 = 0) ∨ ∃ b o, a2 = some ⟨b, o, none⟩ ∧ n2 ≤ c2 ∧ (c2 : Int) ≤ 9223372036854775807)
    (z2 : n2 = 0 ∨ ∃ (b o : Nat) (f : Nat → Int), a2 = some ⟨b, o, none⟩ ∧ b < W.heap.size ∧ ∀ j, j < n2 → W.cell? ⟨b, o + j, none⟩ = some (.int .i64 (f j)) ∧ (Lit.int .i64 (f j)).wf = true)
    (bx : Nat → Int) (w3 : ∀ j, j < 16 → (Lit.int .u8 (bx j)).wf = true) (bY : Nat → Int) (w4 : ∀ j, j < 16 → (Lit.int .u8 (bY j)).wf = true) :
    Calls Try.prog 7 #[.agg (rowV .u8 16 key).toArray, .slice a1 n1 c1, .slice a2 n2 c2, .agg (rowV .u8 16 bx).toArray, .agg (rowV .u8 16 bY).toArray] W fun e w' => e = .returned (.bool true) ∧ Below W.heap.size W w' := by
  show Calls Try.prog 7 #[row16 key, .slice a1 n1 c1, .slice a2 n2 c2, row16 bx, row16 bY] W _
  have hk := byte_ok w0
  have hx := byte_ok w3
  have hy := byte_ok w4
  by_cases hW : 0 < W.heap.size
  · obtain ⟨z, u1, hz⟩ := by_of s1 z1
    obtain ⟨u, u2, hu⟩ := cuts_of s2 z2
    exact holdsW hW hk hx hy u1 u2 hz hu
  · have e1 : n1 = 0 := by
      rcases z1 with h | ⟨_, _, _, _, hb, _⟩
      · exact h
      · omega
    have e2 : n2 = 0 := by
      rcases z2 with h | ⟨_, _, _, _, hb, _⟩
      · exact h
      · omega
    subst e1; subst e2
    have kn := KH_ok tagF VT0 CT0 XF0 ⟨fun _ => [], fun _ => []⟩
    rcases s1 with ⟨rfl, _, rfl⟩ | ⟨b, o, rfl, hc, _⟩ <;> rcases s2 with ⟨rfl, _, rfl⟩ | ⟨b', o', rfl, hc', _⟩
    · exact ranG pg kn (ρ := fun _ => ⟨0, 0, 0⟩) (lawNnn tagF VT0 CT0 XF0 key bx bY) (nil_ok hk hx hy) rfl (named_hs 0 _ _ W) (VL.cons (.of_flat rfl) (VL.cons (VR.same rfl) (VL.cons (VR.same rfl) (VL.cons (.of_flat rfl) (VL.cons (.of_flat rfl) VL.nil)))))
    · exact ranG pg kn (ρ := fun _ => ⟨b', o', 0⟩) (lawNnz tagF VT0 CT0 XF0 key bx bY c2) (nil_ok hk hx hy) rfl (named_hs 1 _ _ W) (VL.cons (.of_flat rfl) (VL.cons (VR.same rfl) (VL.cons (VR.unread (a := ⟨b', o', none⟩) (by decide) rfl rfl hc') (VL.cons (.of_flat rfl) (VL.cons (.of_flat rfl) VL.nil)))))
    · exact ranG pg kn (ρ := fun _ => ⟨b, o, 0⟩) (lawNzn tagF VT0 CT0 XF0 key bx bY c1) (zil_ok c1 hk hx hy) rfl (named_hs 1 _ _ W) (VL.cons (.of_flat rfl) (VL.cons (VR.unread (a := ⟨b, o, none⟩) (by decide) rfl rfl hc) (VL.cons (VR.same rfl) (VL.cons (.of_flat rfl) (VL.cons (.of_flat rfl) VL.nil)))))
    · exact ranG pg kn (ρ := fun k => if k = 0 then ⟨b, o, 0⟩ else ⟨b', o', 0⟩) (lawNzz tagF VT0 CT0 XF0 key bx bY c1 c2) (zil_ok c1 hk hx hy) rfl (named_hs 2 _ _ W) (VL.cons (.of_flat rfl) (VL.cons (VR.unread (a := ⟨b, o, none⟩) (by decide) rfl rfl hc) (VL.cons (VR.unread (a := ⟨b', o', none⟩) (by decide) rfl rfl hc') (VL.cons (.of_flat rfl) (VL.cons (.of_flat rfl) VL.nil)))))
end
end ho
end Go.Proofs.Ytkcngffpnnlmeaa
