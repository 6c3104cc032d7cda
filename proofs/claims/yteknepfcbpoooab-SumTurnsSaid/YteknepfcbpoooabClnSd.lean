/- Read off the code by the clean reading. -/
import Derived.Test.YteknepfcbpoooabClnSc
import Derived.Test.YteknepfcbpoooabClnQc
set_option linter.unusedVariables false
set_option linter.unusedSimpArgs false
set_option linter.deprecated false
set_option maxRecDepth 100000
namespace Go.Proofs.Yteknepfcbpoooab
open Go.ChangeShapes Go.WideShapes Go.ChangeAt Go.RowKit Go.Cln
namespace sh
open sd se se.rr sf sg
set_option linter.unusedVariables false
noncomputable section
def KH : Given := { Given.framesO (Given.frames Given.nothing FSq) FL with fits := true }
def rI (L : List Int) (n c : Nat) (a : Int) (o : List (Option Bool)) : Option (Value × St) := (mk Try.prog KH 300).call 6 [.slice (some ⟨0, 0, none⟩) n c, .int .i64 a] (smSt 1 (hI L) o)
def rN (a : Int) (o : List (Option Bool)) : Option (Value × St) := (mk Try.prog KH 300).call 6 [.slice none 0 0, .int .i64 a] (smSt 0 [] o)
end
end sh
end Go.Proofs.Yteknepfcbpoooab
namespace Go.Proofs.Yteknepfcbpoooab
open Go.ChangeShapes Go.WideShapes Go.ChangeAt Go.RowKit Go.Cln
namespace sh
open sd se se.rr sf sg
set_option linter.unusedVariables false
noncomputable section
def tk (L : List Int) (n : Nat) : List Int := List.take n (List.drop 0 L)
def LM (L : List Int) (n : Nat) : List Int := List.take (0 + n) (List.drop 0 (tk L n)) ++ List.take 1 (List.drop 0 [77])
def nn (n : Nat) : Nat := (n : Int).toNat - Int.toNat 0
def o1 : Nat := 0 + Int.toNat 0 * 1
def MM (L : List Int) (n : Nat) : List Int := List.take (nn n) (List.drop o1 (LM L n))
def pHead (L : List Int) (n : Nat) : Prop := (((((True ∧ decide (500 < (n : Int)) = false) ∧ decide (0 + n ≤ 0) = false) ∧ (0 + n ≤ L.length ∧ 0 + 0 ≤ 0 ∧ (0 + n) * 1 ≤ mostBytes ∧ 0 + n ≤ mostBytes)) ∧ decide (0 + n + 1 ≤ 0 + n) = false) ∧
  (0 + 1 ≤ 1 ∧ 0 + (0 + n) ≤ (tk L n).length ∧ (0 + n + 1) * 1 ≤ mostBytes ∧ 0 + n + 1 ≤ mostBytes)) ∧ (0 ≤ (n : Int) ∧ (n : Int) ≤ ((0 + n + 1 : Nat) : Int) ∧ (0 : Int) ≤ 0 ∧ 0 ≤ (n : Int))
def eqS (X Y : List Int) : Bool := (bytesI X).toList == (bytesI Y).toList
def o2 (n : Nat) : Nat := o1 + Int.toNat 0 * 1 + (n : Int).toNat * 1
def pTail (L : List Int) (n : Nat) (p : Prop) (M : List Int) (LM : List Int) (bn : Nat) : Prop := (((((((p ∧ o1 + nn n ≤ LM.length) ∧ 0 + n ≤ L.length) ∧ eqS M (tk L n) = true) ∧ IntKind.i64.wrap ((n : Int) + 1) = (n : Int) + 1) ∧
  (0 ≤ (n : Int) + 1 ∧ (n : Int) + 1 ≤ ((bn - Int.toNat 0 : Nat) : Int) ∧ (0 : Int) ≤ 0 ∧ 0 ≤ (n : Int) + 1)) ∧ (0 ≤ (n : Int) ∧ (n : Int) < (((n : Int) + 1).toNat - Int.toNat 0 : Nat))) ∧ o2 n < LM.length) ∧ (LM.getD (o2 n) 0 == 77) = true
def oE : List (Option Bool) := [some false, some false, some false, some true, some false, some false, none, none, none, none, none, none, none, none, none, none, none, some true, none, none, none, some true, none, some true, none, none, none, some true, none, some true, none, none, some true]
def pE (L : List Int) (n : Nat) (a : Int) : Prop := pTail L n ((pHead L n ∧ (nn n ≤ 1099511627776 ∧ ¬ okA (nn n) a)) ∧ (n ≤ 1099511627776 ∧ ¬ okA n a)) (MM L n) (LM L n) (0 + n + 1) ∧ True
theorem runE (L : List Int) (n c : Nat) (a : Int) : (rI L n c a oE).map (fun r => (r.1, r.2.obl)) = some (.bool true, pE L n a) := by kernel_rfl
def oK : List (Option Bool) := [some false, some false, some false, some true, some true, some true, some true, none, none, none, none, none, none, none, none, none, none, some true, none, none, none, some true, none, some true, none, none, none, some true, none, some true, none, none, some true, none, none, none, none, none, none, none, none, some true]
def pK0 (L : List Int) (n : Nat) (a : Int) : Prop := (((((pHead L n ∧ (Byt (MM L n) ∧ nn n = (MM L n).length ∧ nn n ≤ 1099511627776 ∧ okA (nn n) a)) ∧ (Byt (tk L n) ∧ n = (tk L n).length ∧ n ≤ 1099511627776 ∧ okA n a)) ∧ 0 + nn n ≤ (lay (MM L n) a.toNat).length) ∧ 0 + n ≤ (lay (tk L n) a.toNat).length) ∧
  eqS (List.take (nn n) (List.drop 0 (lay (MM L n) a.toNat))) (List.take n (List.drop 0 (lay (tk L n) a.toNat))) = true)
def CK (L : List Int) (n : Nat) (a : Int) : List Int := List.take (nn n) (List.drop 0 (lay (MM L n) a.toNat))
def pK (L : List Int) (n : Nat) (a : Int) : Prop := ((pTail L n (pK0 L n a) (MM L n) (LM L n) (0 + n + 1) ∧ (Byt (CK L n a) ∧ 0 < nn n ∧ nn n = (CK L n a).length ∧ nn n ≤ 1099511627776)) ∧ (sc.car (wsum (CK L n a)) == 65535) = true) ∧ True
theorem runK (L : List Int) (n c : Nat) (a : Int) : (rI L n c a oK).map (fun r => (r.1, r.2.obl)) = some (.bool true, pK L n a) := by kernel_rfl
theorem runB (L : List Int) (n c : Nat) (a : Int) : (rI L n c a [some true]).map (fun r => (r.1, r.2.obl)) = some (.bool true, (True ∧ decide (500 < (n : Int)) = true) ∧ True) := by kernel_rfl
def oP : List (Option Bool) := [none, none, some false, none, none, none, none, none, none, some true, none, none, none, none, some false, none, none, none, none, none, none, some true]
def oQ : List (Option Bool) := [none, none, some true, none, none, none, none, none, none, none, none, none, none, some true]
def pP (a : Int) : Prop := ((((True ∧ decide (a < 0) = false) ∧ decide (IntKind.i64.wrap (((0 : Int).toNat - Int.toNat 0 : Nat) - 2) < a) = true) ∧ decide (a < 0) = false) ∧ decide (IntKind.i64.wrap (((0 : Nat) : Int) - 2) < a) = true) ∧ True
def pQ (a : Int) : Prop := ((True ∧ decide (a < 0) = true) ∧ decide (a < 0) = true) ∧ True
def KU : Given := { Given.frames Given.nothing FSq with fits := true }
def rV (v : Value) (k : Nat) (a : Int) (o : List (Option Bool)) : Option (Value × St) := (mk Try.prog KU 300).call 6 [v, .int .i64 a] (St.start k .leaf o)
theorem runNP (a : Int) : (rV (.slice none 0 0) 0 a oP).map (fun r => (r.1, r.2.obl)) = some (.bool true, pP a) := by kernel_rfl
theorem runNQ (a : Int) : (rV (.slice none 0 0) 0 a oQ).map (fun r => (r.1, r.2.obl)) = some (.bool true, pQ a) := by kernel_rfl
theorem runZP (c : Nat) (a : Int) : (rV (.slice (some ⟨0, 0, none⟩) 0 c) 1 a oP).map (fun r => (r.1, r.2.obl)) = some (.bool true, pP a) := by kernel_rfl
theorem runZQ (c : Nat) (a : Int) : (rV (.slice (some ⟨0, 0, none⟩) 0 c) 1 a oQ).map (fun r => (r.1, r.2.obl)) = some (.bool true, pQ a) := by kernel_rfl
end
end sh
end Go.Proofs.Yteknepfcbpoooab
namespace Go.Proofs.Yteknepfcbpoooab
open Go.ChangeShapes Go.WideShapes Go.ChangeAt Go.RowKit Go.Cln
namespace sh
open sd se se.rr sf sg
set_option linter.unusedVariables false
noncomputable section
theorem works0 : ((mk Try.prog Given.nothing 300).call 11 [] (St.start 0 .leaf [])).map (fun r => (r.1, r.2.obl)) = some (.bool true, True) := by kernel_rfl
theorem works_ok : CallOk Try.prog 11 [] (smSt 0 [] []) (.bool true) (smSt 0 [] []) := CallOk.of_below (fun W => ran sr.pg (GivenOk.nothing _) works0 trivial rfl rfl W) rfl rfl _
theorem KH_ok : GivenOk Try.prog KH := frames_fits (((GivenOk.nothing _).frames (FS_ok works_ok)).framesO FL_ok) true
theorem KU_ok : GivenOk Try.prog KU := frames_fits ((GivenOk.nothing _).frames (FS_ok works_ok)) true
theorem tk_eq {L : List Int} {n : Nat} (hn : L.length = n) : tk L n = L := by unfold tk; rw [List.drop_zero, ← hn, List.take_length]
theorem nn_eq (n : Nat) : nn n = n := by unfold nn; omega
theorem o1_eq : o1 = 0 := rfl
theorem LM_eq {L : List Int} {n : Nat} (hn : L.length = n) : LM L n = L ++ [77] := by
  unfold LM
  rw [tk_eq hn, List.drop_zero, Nat.zero_add, ← hn, List.take_length]; rfl
theorem MM_eq {L : List Int} {n : Nat} (hn : L.length = n) : MM L n = L := by
  unfold MM
  rw [LM_eq hn, nn_eq, o1_eq, List.drop_zero, ← hn, List.take_left']; rfl
theorem eqS_refl (X : List Int) : eqS X X = true := by unfold eqS; exact beq_self_eq_true _
theorem head_ok {L : List Int} {n : Nat} (hn : L.length = n) (h0 : 0 < n) (h1 : n ≤ 500) : pHead L n := by
  unfold pHead
  rw [tk_eq hn]
  refine ⟨⟨⟨⟨⟨⟨trivial, ?_⟩, ?_⟩, ?_⟩, ?_⟩, ?_⟩, ?_⟩
  · rw [decide_eq_false_iff_not]; omega
  · rw [decide_eq_false_iff_not]; omega
  · unfold mostBytes; omega
  · rw [decide_eq_false_iff_not]; omega
  · unfold mostBytes; omega
  · omega
theorem tail_ok {L : List Int} {n : Nat} {p : Prop} (hp : p) (hn : L.length = n) (h1 : n ≤ 500) : pTail L n p (MM L n) (LM L n) (0 + n + 1) := by
  unfold pTail
  rw [MM_eq hn, LM_eq hn, tk_eq hn, nn_eq, o1_eq]
  have e : o2 n = n := by unfold o2; rw [o1_eq]; omega
  rw [e]
  refine ⟨⟨⟨⟨⟨⟨⟨⟨hp, ?_⟩, ?_⟩, eqS_refl _⟩, ?_⟩, ?_⟩, ?_⟩, ?_⟩, ?_⟩
  · simp; omega
  · omega
  · rw [IntKind.wrap_i64]; omega
  · omega
  · omega
  · simp; omega
  · rw [List.getD_eq_getElem?_getD, List.getElem?_append_right (by omega), hn, Nat.sub_self]; rfl
theorem lay_take (L : List Int) (j n : Nat) (hn : L.length = n) : List.take n (List.drop 0 (lay L j)) = lay L j := by
  rw [List.drop_zero, List.take_of_length_le (by rw [lay_len]; omega)]
theorem wsum_set2 : ∀ (l : List Int) (j : Nat) (x y : Int), j % 2 = 0 → j + 1 < l.length → wsum ((l.set j x).set (j + 1) y) + l.getD j 0 * 256 + l.getD (j + 1) 0 = wsum l + x * 256 + y
  | [], j, x, y, _, h => by simp at h
  | [a], j, x, y, _, h => by simp at h
  | a :: b :: l, 0, x, y, _, _ => by simp [wsum]; omega
  | a :: b :: l, 1, x, y, h, _ => by simp at h
  | a :: b :: l, j + 2, x, y, h, hl => by
    have := wsum_set2 l j x y (by omega) (by simp at hl; omega)
    simp only [List.set_cons_succ, wsum, List.getD_cons_succ]
    have e : j + 2 + 1 = (j + 1) + 2 := by omega
    omega
theorem zed_zero {L : List Int} {j : Nat} (h : j + 1 < L.length) : (zed L j).getD j 0 = 0 ∧ (zed L j).getD (j + 1) 0 = 0 := by
  unfold zed
  constructor
  · rw [List.getD_eq_getElem?_getD, List.getElem?_set, if_neg (by omega), List.getElem?_set, if_pos rfl, if_pos (by omega)]; rfl
  · rw [List.getD_eq_getElem?_getD, List.getElem?_set, if_pos rfl, if_pos (by simp; omega)]; rfl
theorem check_ok {L : List Int} {j : Nat} (hB : Byt L) (h : j + 1 < L.length) (he : j % 2 = 0) : sc.car (wsum (lay L j)) = 65535 := by
  have h1 := wsum_set2 (zed L j) j (sm L j / 256) (sm L j % 256) he (by rw [zed_len]; exact h)
  obtain ⟨z1, z2⟩ := zed_zero h
  rw [z1, z2] at h1
  have e : wsum (lay L j) = wsum (zed L j) + sm L j := by
    show wsum (((zed L j).set j (sm L j / 256)).set (j + 1) (sm L j % 256)) = _
    omega
  rw [e]
  have hb := (wsum_bound _ (byt_zed hB j)).1
  unfold sm
  unfold sc.car
  by_cases h0 : wsum (zed L j) ≤ 0
  · rw [if_pos h0]
    rw [if_neg (by omega)]; omega
  · rw [if_neg h0, if_neg (by omega)]; omega
theorem eE_ok {L : List Int} {n : Nat} {a : Int} (hn : L.length = n) (h0 : 0 < n) (h1 : n ≤ 500) (h : ¬ okA n a) : pE L n a := by
  refine ⟨tail_ok ⟨⟨head_ok hn h0 h1, ?_⟩, ?_⟩ hn h1, trivial⟩
  · rw [nn_eq]; exact ⟨by omega, h⟩
  · exact ⟨by omega, h⟩
theorem eK_ok {L : List Int} {n : Nat} {a : Int} (hB : Byt L) (hn : L.length = n) (h0 : 0 < n) (h1 : n ≤ 500) (h : okA n a) : pK L n a := by
  have eC : CK L n a = lay L a.toNat := by unfold CK; rw [MM_eq hn, nn_eq, lay_take L _ n hn]
  obtain ⟨q1, q2, q3⟩ := h
  refine ⟨⟨⟨tail_ok ?_ hn h1, ?_⟩, ?_⟩, trivial⟩
  · unfold pK0
    rw [MM_eq hn, tk_eq hn, nn_eq, lay_take L _ n hn]
    refine ⟨⟨⟨⟨⟨head_ok hn h0 h1, hB, hn.symm, by omega, q1, q2, q3⟩, hB, hn.symm, by omega, q1, q2, q3⟩, ?_⟩, ?_⟩, eqS_refl _⟩
    · rw [lay_len]; omega
    · rw [lay_len]; omega
  · rw [eC, nn_eq]
    exact ⟨byt_lay hB _, h0, by rw [lay_len]; exact hn.symm, by omega⟩
  · rw [eC, check_ok hB (by omega) (by omega)]; rfl
theorem sumLays (W : World) (a0 : Option Addr) (n0 c0 : Nat) (s0 : (a0 = none ∧ n0 = 0 ∧ c0 = 0) ∨ ∃ b o, a0 = some ⟨b, o, none⟩ ∧ n0 ≤ c0 ∧ (c0 : Int) ≤ 9223372036854775807)
    (z0 : n0 = 0 ∨ ∃ (b o : Nat) (L : List Int), a0 = some ⟨b, o, none⟩ ∧ L.length = n0 ∧ (∀ x ∈ L, (Lit.int .u8 x).wf = true) ∧ HasCells W b o (L.map (Value.int .u8))) (a1 : Int) :
    Calls Try.prog 6 #[.slice a0 n0 c0, .int .i64 a1] W fun e w' => e = .returned (.bool true) ∧ Below W.heap.size W w' := by
  have hneg : ∀ {a : Int}, ¬ a < 0 → pP a := fun {a} h => by
    refine ⟨⟨⟨⟨⟨trivial, ?_⟩, ?_⟩, ?_⟩, ?_⟩, trivial⟩
    · rw [decide_eq_false_iff_not]; exact h
    · rw [decide_eq_true_eq, IntKind.wrap_i64]; omega
    · rw [decide_eq_false_iff_not]; exact h
    · rw [decide_eq_true_eq, IntKind.wrap_i64]; omega
  have hpos : ∀ {a : Int}, a < 0 → pQ a := fun {a} h => ⟨⟨⟨trivial, by rw [decide_eq_true_eq]; exact h⟩, by rw [decide_eq_true_eq]; exact h⟩, trivial⟩
  rcases s0 with ⟨rfl, rfl, rfl⟩ | ⟨b, o, rfl, hle, hmax⟩
  · by_cases ha : a1 < 0
    · exact ran sr.pg KU_ok (runNQ a1) (hpos ha) rfl rfl W
    · exact ran sr.pg KU_ok (runNP a1) (hneg ha) rfl rfl W
  · rcases z0 with rfl | ⟨b', o', L, e, hl, hw, hc⟩
    · have vl : VL (Dm (St.start 1 .leaf (oP))) (fun _ => (⟨b, o, 0⟩ : PB)) [.slice (some ⟨0, 0, none⟩) 0 c0, .int .i64 a1] [.slice (some ⟨b, o, none⟩) 0 c0, .int .i64 a1] :=
        VL.cons (VR.unread (a := ⟨b, o, none⟩) (by decide) rfl rfl hle) (VL.cons (.same rfl) VL.nil)
      by_cases ha : a1 < 0
      · exact ranG sr.pg KU_ok (ρ := fun _ => ⟨b, o, 0⟩) (runZQ c0 a1) (hpos ha) rfl (named_hs 1 oQ _ W) vl
      · exact ranG sr.pg KU_ok (ρ := fun _ => ⟨b, o, 0⟩) (runZP c0 a1) (hneg ha) rfl (named_hs 1 oP _ W) vl
    · cases e
      by_cases h0 : n0 = 0
      · subst h0
        have vl : VL (Dm (St.start 1 .leaf (oP))) (fun _ => (⟨b, o, 0⟩ : PB)) [.slice (some ⟨0, 0, none⟩) 0 c0, .int .i64 a1] [.slice (some ⟨b, o, none⟩) 0 c0, .int .i64 a1] :=
          VL.cons (VR.unread (a := ⟨b, o, none⟩) (by decide) rfl rfl hle) (VL.cons (.same rfl) VL.nil)
        by_cases ha : a1 < 0
        · exact ranG sr.pg KU_ok (ρ := fun _ => ⟨b, o, 0⟩) (runZQ c0 a1) (hpos ha) rfl (named_hs 1 oQ _ W) vl
        · exact ranG sr.pg KU_ok (ρ := fun _ => ⟨b, o, 0⟩) (runZP c0 a1) (hneg ha) rfl (named_hs 1 oP _ W) vl
      · have hB : Byt L := fun x hx => byte_in (hw x hx)
        by_cases hbig : 500 < n0
        · obtain ⟨ρ, g1, g2⟩ := ints_start (t := 5) [some true] hc
          exact ranG sr.pg KH_ok (ρ := ρ) (runB L n0 c0 a1) ⟨⟨trivial, by rw [decide_eq_true_eq]; omega⟩, trivial⟩ rfl g1 (VL.cons (g2 n0 c0 hle) (VL.cons (.same rfl) VL.nil))
        · by_cases ha : okA n0 a1
          · obtain ⟨ρ, g1, g2⟩ := ints_start (t := 5) oK hc
            exact ranG sr.pg KH_ok (ρ := ρ) (runK L n0 c0 a1) (eK_ok hB hl (by omega) (by omega) ha) rfl g1 (VL.cons (g2 n0 c0 hle) (VL.cons (.same rfl) VL.nil))
          · obtain ⟨ρ, g1, g2⟩ := ints_start (t := 5) oE hc
            exact ranG sr.pg KH_ok (ρ := ρ) (runE L n0 c0 a1) (eE_ok hl (by omega) (by omega) ha) rfl g1 (VL.cons (g2 n0 c0 hle) (VL.cons (.same rfl) VL.nil))
end
end sh
end Go.Proofs.Yteknepfcbpoooab
