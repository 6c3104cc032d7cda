/- Read off the code by the clean reading. -/
import Derived.Test.YteknepfcbpoooabClnWb
import Derived.Test.YteknepfcbpoooabClnQc
set_option linter.unusedVariables false
set_option linter.unusedSimpArgs false
set_option linter.deprecated false
set_option maxRecDepth 100000
namespace Go.Proofs.Yteknepfcbpoooab
open Go.ChangeShapes Go.WideShapes Go.ChangeAt Go.RowKit Go.Cln
namespace si
open sd se se.rr
open pa (rawN)
open sp (upd)
set_option linter.unusedVariables false
noncomputable section
theorem rdFtt {x : HX} {y : Y} {f : Int} {k : Nat} {v : VF} {g : Nat → Value} (h : By x y) (hk : k < y.m) (hv : ∀ i, DeadV (v i)) (hg : Pcs y g k) (h0 : 0 ≤ f) (h1 : f ≤ (cut x y k)) (h2 : (cut x y k) ≤ nI y.n) (c1 : (decide (cut x y k < nI y.n) = true)) (c2 : (decide (cut x y k > f) = true)) :
    StepG Try.prog none (s0 x y) lb (sF x y (tK x y f) f g f k v) fun e s' => e = .normal ∧ s' = sF x y (tK x y (cut x y k)) (cut x y k) (g2 y g k f (cut x y k)) (cut x y k) (k + 1) (VL v) := by
  have h20 : k ≤ 20 := by have := h.few2; omega
  by_cases he : f < (cut x y k)
  · have := stepG (m := 4) (.inr rfl) (show 1 ≤ 3 by decide) hv (kFttt x y (tK x y f) f f k v g) ⟨⟨⟨⟨⟨pH_ok h hk h0 h1 h2 c1 c2, gr_ok h20⟩, by omega⟩, pQ_ok h h0 h1 h2⟩, w1_ok h h0 he h2⟩, fk_ok h20⟩ hg
    rw [(tK_next h h0 h1 h2).1, (tK_next h h0 h1 h2).2] at this; exact this
  · have he : (cut x y k) = f := by omega
    have := stepG (m := 4) (.inr rfl) (show 1 ≤ 3 by decide) hv (kFttf x y (tK x y f) f f k v g) ⟨⟨⟨⟨⟨pH_ok h hk h0 h1 h2 c1 c2, gr_ok h20⟩, by omega⟩, pQ_ok h h0 h1 h2⟩, (by rw [he]; exact w0_ok h h0 (by omega))⟩, fk_ok h20⟩ hg
    refine this.mono ?_
    rintro e s' ⟨q1, q2⟩
    refine ⟨q1, q2.trans ?_⟩
    show sS x y (tK x y f) f _ _ _ _ _ _ = sS x y (tK x y (cut x y k)) (cut x y k) _ _ _ _ _ _
    exact congrArg (fun z => sS x y (tK x y z) z (pl (k + 1)) (oP (k + 1) (g2 y g k f (cut x y k))) (cut x y k) (k + 1) (VL v) 3) he.symm
theorem rdFft {x : HX} {y : Y} {f : Int} {k : Nat} {v : VF} {g : Nat → Value} (h : By x y) (hk : k < y.m) (hv : ∀ i, DeadV (v i)) (hg : Pcs y g k) (h0 : 0 ≤ f) (h1 : f ≤ (nI y.n)) (h2 : (nI y.n) ≤ nI y.n) (c1 : (decide (cut x y k < nI y.n) = false)) (c2 : (decide (nI y.n > f) = true)) :
    StepG Try.prog none (s0 x y) lb (sF x y (tK x y f) f g f k v) fun e s' => e = .normal ∧ s' = sF x y (tK x y (nI y.n)) (nI y.n) (g2 y g k f (nI y.n)) (nI y.n) (k + 1) (VL v) := by
  have h20 : k ≤ 20 := by have := h.few2; omega
  by_cases he : f < (nI y.n)
  · have := stepG (m := 4) (.inr rfl) (show 1 ≤ 3 by decide) hv (kFftt x y (tK x y f) f f k v g) ⟨⟨⟨⟨⟨pH_ok h hk h0 h1 h2 c1 c2, gr_ok h20⟩, by omega⟩, pQ_ok h h0 h1 h2⟩, w1_ok h h0 he h2⟩, fk_ok h20⟩ hg
    rw [(tK_next h h0 h1 h2).1, (tK_next h h0 h1 h2).2] at this; exact this
  · have he : (nI y.n) = f := by omega
    have := stepG (m := 4) (.inr rfl) (show 1 ≤ 3 by decide) hv (kFftf x y (tK x y f) f f k v g) ⟨⟨⟨⟨⟨pH_ok h hk h0 h1 h2 c1 c2, gr_ok h20⟩, by omega⟩, pQ_ok h h0 h1 h2⟩, (by rw [he]; exact w0_ok h h0 (by omega))⟩, fk_ok h20⟩ hg
    refine this.mono ?_
    rintro e s' ⟨q1, q2⟩
    refine ⟨q1, q2.trans ?_⟩
    show sS x y (tK x y f) f _ _ _ _ _ _ = sS x y (tK x y (nI y.n)) (nI y.n) _ _ _ _ _ _
    exact congrArg (fun z => sS x y (tK x y z) z (pl (k + 1)) (oP (k + 1) (g2 y g k f (nI y.n))) (nI y.n) (k + 1) (VL v) 3) he.symm
theorem rdFtf {x : HX} {y : Y} {f : Int} {k : Nat} {v : VF} {g : Nat → Value} (h : By x y) (hk : k < y.m) (hv : ∀ i, DeadV (v i)) (hg : Pcs y g k) (h0 : 0 ≤ f) (h1 : f ≤ f) (h2 : f ≤ nI y.n) (c1 : (decide (cut x y k < nI y.n) = true)) (c2 : (decide (cut x y k > f) = false)) :
    StepG Try.prog none (s0 x y) lb (sF x y (tK x y f) f g f k v) fun e s' => e = .normal ∧ s' = sF x y (tK x y f) f (g2 y g k f f) f (k + 1) (VL v) := by
  have h20 : k ≤ 20 := by have := h.few2; omega
  exact stepG (m := 4) (.inr rfl) (show 1 ≤ 3 by decide) hv (kFtff x y (tK x y f) f f k v g) ⟨⟨⟨⟨⟨pH_ok h hk h0 h1 h2 c1 c2, gr_ok h20⟩, by omega⟩, pQ_ok h h0 h1 h2⟩, w0_ok h h0 (by omega)⟩, fk_ok h20⟩ hg
theorem rdFff {x : HX} {y : Y} {f : Int} {k : Nat} {v : VF} {g : Nat → Value} (h : By x y) (hk : k < y.m) (hv : ∀ i, DeadV (v i)) (hg : Pcs y g k) (h0 : 0 ≤ f) (h1 : f ≤ f) (h2 : f ≤ nI y.n) (c1 : (decide (cut x y k < nI y.n) = false)) (c2 : (decide (nI y.n > f) = false)) :
    StepG Try.prog none (s0 x y) lb (sF x y (tK x y f) f g f k v) fun e s' => e = .normal ∧ s' = sF x y (tK x y f) f (g2 y g k f f) f (k + 1) (VL v) := by
  have h20 : k ≤ 20 := by have := h.few2; omega
  exact stepG (m := 4) (.inr rfl) (show 1 ≤ 3 by decide) hv (kFfff x y (tK x y f) f f k v g) ⟨⟨⟨⟨⟨pH_ok h hk h0 h1 h2 c1 c2, gr_ok h20⟩, by omega⟩, pQ_ok h h0 h1 h2⟩, w0_ok h h0 (by omega)⟩, fk_ok h20⟩ hg
theorem rdNtt {x : HX} {y : Y} {f : Int} {v : VF} {g : Nat → Value} (h : By x y) (hk : 0 < y.m) (hv : ∀ i, DeadV (v i)) (hg : Pcs y g 0) (h0 : 0 ≤ f) (h1 : f ≤ (cut x y 0)) (h2 : (cut x y 0) ≤ nI y.n) (c1 : (decide (cut x y 0 < nI y.n) = true)) (c2 : (decide (cut x y 0 > f) = true)) :
    StepG Try.prog none (s0 x y) lb (sN x y (tK x y f) f f 0 v) fun e s' => e = .normal ∧ s' = sF x y (tK x y (cut x y 0)) (cut x y 0) (g2 y g 0 f (cut x y 0)) (cut x y 0) (0 + 1) (VL v) := by
  have h20 : 0 ≤ 20 := by have := h.few2; omega
  by_cases he : f < (cut x y 0)
  · have := stepG (m := 3) (.inl rfl) (show 1 ≤ 2 by decide) hv (kNttt x y (tK x y f) f f v g) ⟨⟨⟨pH_ok h hk h0 h1 h2 c1 c2, pQ_ok h h0 h1 h2⟩, w1_ok h h0 he h2⟩, fk_ok (by decide)⟩ hg
    rw [(tK_next h h0 h1 h2).1, (tK_next h h0 h1 h2).2] at this; exact this
  · have he : (cut x y 0) = f := by omega
    have := stepG (m := 3) (.inl rfl) (show 1 ≤ 2 by decide) hv (kNttf x y (tK x y f) f f v g) ⟨⟨⟨pH_ok h hk h0 h1 h2 c1 c2, pQ_ok h h0 h1 h2⟩, (by rw [he]; exact w0_ok h h0 (by omega))⟩, fk_ok (by decide)⟩ hg
    refine this.mono ?_
    rintro e s' ⟨q1, q2⟩
    refine ⟨q1, q2.trans ?_⟩
    show sS x y (tK x y f) f _ _ _ _ _ _ = sS x y (tK x y (cut x y 0)) (cut x y 0) _ _ _ _ _ _
    exact congrArg (fun z => sS x y (tK x y z) z (pl (0 + 1)) (oP (0 + 1) (g2 y g 0 f (cut x y 0))) (cut x y 0) (0 + 1) (VL v) 3) he.symm
theorem rdNft {x : HX} {y : Y} {f : Int} {v : VF} {g : Nat → Value} (h : By x y) (hk : 0 < y.m) (hv : ∀ i, DeadV (v i)) (hg : Pcs y g 0) (h0 : 0 ≤ f) (h1 : f ≤ (nI y.n)) (h2 : (nI y.n) ≤ nI y.n) (c1 : (decide (cut x y 0 < nI y.n) = false)) (c2 : (decide (nI y.n > f) = true)) :
    StepG Try.prog none (s0 x y) lb (sN x y (tK x y f) f f 0 v) fun e s' => e = .normal ∧ s' = sF x y (tK x y (nI y.n)) (nI y.n) (g2 y g 0 f (nI y.n)) (nI y.n) (0 + 1) (VL v) := by
  have h20 : 0 ≤ 20 := by have := h.few2; omega
  by_cases he : f < (nI y.n)
  · have := stepG (m := 3) (.inl rfl) (show 1 ≤ 2 by decide) hv (kNftt x y (tK x y f) f f v g) ⟨⟨⟨pH_ok h hk h0 h1 h2 c1 c2, pQ_ok h h0 h1 h2⟩, w1_ok h h0 he h2⟩, fk_ok (by decide)⟩ hg
    rw [(tK_next h h0 h1 h2).1, (tK_next h h0 h1 h2).2] at this; exact this
  · have he : (nI y.n) = f := by omega
    have := stepG (m := 3) (.inl rfl) (show 1 ≤ 2 by decide) hv (kNftf x y (tK x y f) f f v g) ⟨⟨⟨pH_ok h hk h0 h1 h2 c1 c2, pQ_ok h h0 h1 h2⟩, (by rw [he]; exact w0_ok h h0 (by omega))⟩, fk_ok (by decide)⟩ hg
    refine this.mono ?_
    rintro e s' ⟨q1, q2⟩
    refine ⟨q1, q2.trans ?_⟩
    show sS x y (tK x y f) f _ _ _ _ _ _ = sS x y (tK x y (nI y.n)) (nI y.n) _ _ _ _ _ _
    exact congrArg (fun z => sS x y (tK x y z) z (pl (0 + 1)) (oP (0 + 1) (g2 y g 0 f (nI y.n))) (nI y.n) (0 + 1) (VL v) 3) he.symm
theorem rdNtf {x : HX} {y : Y} {f : Int} {v : VF} {g : Nat → Value} (h : By x y) (hk : 0 < y.m) (hv : ∀ i, DeadV (v i)) (hg : Pcs y g 0) (h0 : 0 ≤ f) (h1 : f ≤ f) (h2 : f ≤ nI y.n) (c1 : (decide (cut x y 0 < nI y.n) = true)) (c2 : (decide (cut x y 0 > f) = false)) :
    StepG Try.prog none (s0 x y) lb (sN x y (tK x y f) f f 0 v) fun e s' => e = .normal ∧ s' = sF x y (tK x y f) f (g2 y g 0 f f) f (0 + 1) (VL v) := by
  have h20 : 0 ≤ 20 := by have := h.few2; omega
  exact stepG (m := 3) (.inl rfl) (show 1 ≤ 2 by decide) hv (kNtff x y (tK x y f) f f v g) ⟨⟨⟨pH_ok h hk h0 h1 h2 c1 c2, pQ_ok h h0 h1 h2⟩, w0_ok h h0 (by omega)⟩, fk_ok (by decide)⟩ hg
theorem rdNff {x : HX} {y : Y} {f : Int} {v : VF} {g : Nat → Value} (h : By x y) (hk : 0 < y.m) (hv : ∀ i, DeadV (v i)) (hg : Pcs y g 0) (h0 : 0 ≤ f) (h1 : f ≤ f) (h2 : f ≤ nI y.n) (c1 : (decide (cut x y 0 < nI y.n) = false)) (c2 : (decide (nI y.n > f) = false)) :
    StepG Try.prog none (s0 x y) lb (sN x y (tK x y f) f f 0 v) fun e s' => e = .normal ∧ s' = sF x y (tK x y f) f (g2 y g 0 f f) f (0 + 1) (VL v) := by
  have h20 : 0 ≤ 20 := by have := h.few2; omega
  exact stepG (m := 3) (.inl rfl) (show 1 ≤ 2 by decide) hv (kNfff x y (tK x y f) f f v g) ⟨⟨⟨pH_ok h hk h0 h1 h2 c1 c2, pQ_ok h h0 h1 h2⟩, w0_ok h h0 (by omega)⟩, fk_ok (by decide)⟩ hg
inductive Good (x : HX) (y : Y) : Nat → St → Prop
  | n {v : VF} (hv : ∀ i, DeadV (v i)) : Good x y 0 (sN x y (tK x y 0) 0 0 0 v)
  | f {k : Nat} {v : VF} {g : Nat → Value} (hv : ∀ i, DeadV (v i)) (hk : 0 < k) (hg : ∀ j, j < k → g j = pc y (aK x y j) (aK x y (j + 1))) : Good x y k (sF x y (tK x y (aK x y k)) (aK x y k) g (aK x y k) k v)
theorem g2_ok {x : HX} {y : Y} {g : Nat → Value} {k : Nat} {to : Int} (hg : ∀ j, j < k → g j = pc y (aK x y j) (aK x y (j + 1))) (e : to = aK x y (k + 1)) : ∀ j, j < k + 1 → g2 y g k (aK x y k) to j = pc y (aK x y j) (aK x y (j + 1)) := fun j hj => by
  unfold g2
  by_cases h : j < k
  · rw [if_pos h]; exact hg j h
  · have : j = k := by omega
    subst this
    rw [if_neg h, e]
theorem goodF {x : HX} {y : Y} {g : Nat → Value} {k : Nat} {to : Int} {v : VF} (hv : ∀ i, DeadV (v i)) (hg : ∀ j, j < k → g j = pc y (aK x y j) (aK x y (j + 1))) (e : to = aK x y (k + 1)) : Good x y (k + 1) (sF x y (tK x y to) to (g2 y g k (aK x y k) to) to (k + 1) (VL v)) := by
  have h2 := g2_ok hg e
  subst e
  exact Good.f (VL_dead hv) (Nat.succ_pos k) h2
theorem roundT {x : HX} {y : Y} {k : Nat} {s : St} (h : By x y) (hk : k < y.m) (hG : Good x y k s) : StepG Try.prog none (s0 x y) lb s fun e s' => e = .normal ∧ Good x y (k + 1) s' := by
  have hf := aK_le x y k
  have ht := toK_le (x := x) k hf.2
  have ek : aK x y (k + 1) = toK x y (aK x y k) k := rfl
  cases hG with
  | n hv => 
    by_cases c1 : cut x y 0 < nI y.n
    · by_cases c2 : cut x y 0 > (aK x y 0)
      · have et : cut x y 0 = aK x y (0 + 1) := by rw [ek]; unfold toK; rw [if_pos c1, if_pos c2]
        refine (rdNtt (g := fun _ => undef) h hk hv (fun j hj => absurd hj (Nat.not_lt_zero j)) hf.1 (by omega) (by omega) (decide_eq_true c1) (decide_eq_true c2)).mono ?_
        rintro e s ⟨rfl, rfl⟩
        exact ⟨rfl, goodF hv (g := fun _ => undef) (fun j hj => absurd hj (Nat.not_lt_zero j)) et⟩
      · have et : (aK x y 0) = aK x y (0 + 1) := by rw [ek]; unfold toK; rw [if_pos c1, if_neg c2]
        refine (rdNtf (g := fun _ => undef) h hk hv (fun j hj => absurd hj (Nat.not_lt_zero j)) hf.1 (by omega) (by omega) (decide_eq_true c1) (decide_eq_false c2)).mono ?_
        rintro e s ⟨rfl, rfl⟩
        exact ⟨rfl, goodF hv (g := fun _ => undef) (fun j hj => absurd hj (Nat.not_lt_zero j)) et⟩
    · by_cases c2 : nI y.n > (aK x y 0)
      · have et : nI y.n = aK x y (0 + 1) := by rw [ek]; unfold toK; rw [if_neg c1, if_pos c2]
        refine (rdNft (g := fun _ => undef) h hk hv (fun j hj => absurd hj (Nat.not_lt_zero j)) hf.1 (by omega) (by omega) (decide_eq_false c1) (decide_eq_true c2)).mono ?_
        rintro e s ⟨rfl, rfl⟩
        exact ⟨rfl, goodF hv (g := fun _ => undef) (fun j hj => absurd hj (Nat.not_lt_zero j)) et⟩
      · have et : (aK x y 0) = aK x y (0 + 1) := by rw [ek]; unfold toK; rw [if_neg c1, if_neg c2]
        refine (rdNff (g := fun _ => undef) h hk hv (fun j hj => absurd hj (Nat.not_lt_zero j)) hf.1 (by omega) (by omega) (decide_eq_false c1) (decide_eq_false c2)).mono ?_
        rintro e s ⟨rfl, rfl⟩
        exact ⟨rfl, goodF hv (g := fun _ => undef) (fun j hj => absurd hj (Nat.not_lt_zero j)) et⟩
  | f hv h0 hg => 
    by_cases c1 : cut x y k < nI y.n
    · by_cases c2 : cut x y k > (aK x y k)
      · have et : cut x y k = aK x y (k + 1) := by rw [ek]; unfold toK; rw [if_pos c1, if_pos c2]
        refine (rdFtt  h hk hv (fun j hj => ⟨_, _, hg j hj⟩) hf.1 (by omega) (by omega) (decide_eq_true c1) (decide_eq_true c2)).mono ?_
        rintro e s ⟨rfl, rfl⟩
        exact ⟨rfl, goodF hv hg et⟩
      · have et : (aK x y k) = aK x y (k + 1) := by rw [ek]; unfold toK; rw [if_pos c1, if_neg c2]
        refine (rdFtf  h hk hv (fun j hj => ⟨_, _, hg j hj⟩) hf.1 (by omega) (by omega) (decide_eq_true c1) (decide_eq_false c2)).mono ?_
        rintro e s ⟨rfl, rfl⟩
        exact ⟨rfl, goodF hv hg et⟩
    · by_cases c2 : nI y.n > (aK x y k)
      · have et : nI y.n = aK x y (k + 1) := by rw [ek]; unfold toK; rw [if_neg c1, if_pos c2]
        refine (rdFft  h hk hv (fun j hj => ⟨_, _, hg j hj⟩) hf.1 (by omega) (by omega) (decide_eq_false c1) (decide_eq_true c2)).mono ?_
        rintro e s ⟨rfl, rfl⟩
        exact ⟨rfl, goodF hv hg et⟩
      · have et : (aK x y k) = aK x y (k + 1) := by rw [ek]; unfold toK; rw [if_neg c1, if_neg c2]
        refine (rdFff  h hk hv (fun j hj => ⟨_, _, hg j hj⟩) hf.1 (by omega) (by omega) (decide_eq_false c1) (decide_eq_false c2)).mono ?_
        rintro e s ⟨rfl, rfl⟩
        exact ⟨rfl, goodF hv hg et⟩
theorem exitX {x : HX} {y : Y} {s : St} (h : By x y) (hG : Good x y y.m s) : StepG Try.prog none (s0 x y) lb s fun e s' => e = .exit 0 ∧ Good x y y.m s' := by
  generalize hm : y.m = m at hG
  cases hG with
  | n hv =>
    rename_i v
    refine (StepG.stdT (s0 := s0 x y) (rd := none) sr.pg (KZ_ok x) (σ := [0, 1]) (xN x y (tK x y 0) 0 0 v) ⟨trivial, by rw [decide_eq_false_iff_not]; unfold nI; omega⟩ (show 1 ≤ 2 by decide) (tmS_dead (VX_dead hv) lvX) (hS_ok x _ _ none fun _ _ _ _ h => by cases h) rfl (okN x y _ _ _ v)).mono ?_
    rintro e s ⟨rfl, rfl⟩
    exact ⟨rfl, Good.n (VX_dead hv)⟩
  | f hv hk hg =>
    rename_i v g
    have h5 : ObV (sM x y (tK x y (aK x y m)) (aK x y m) (aK x y m) m (VX v)) (nm [0, 1, 2]) (.cells (.fam m g) 23) (.cells (.fam m g) 23) := .cells fun i z hz => by
      simp only [Cells.get] at hz ⊢
      split at hz
      · rename_i hi
        simp only [Option.some.injEq] at hz
        subst hz
        rw [if_pos hi, hg i hi]
        obtain ⟨q1, q2⟩ := ok_pc [0, 1, 2] x y (tK x y (aK x y m)) (aK x y m) (aK x y m) m (VX v) (aK x y i) (aK x y (i + 1))
        exact ⟨_, rfl, .inl q1, q2⟩
      · cases hz
    have h1 : (Tr.rebuild (hS x (tK x y (aK x y m)) (aK x y m) (oP m g)) 3).get 2 = some (.cells (.fam m g) 23) := by rw [getS (by decide)]; rfl
    have := StepG.stdM (s0 := s0 x y) (rd := none) sr.pg (KZ_ok x) (σ := [0, 1, 2]) (kb := 2) (m := 2) (xF x y (tK x y (aK x y m)) (aK x y m) (aK x y m) m v g) ⟨trivial, by rw [decide_eq_false_iff_not]; unfold nI; omega⟩ (show 1 ≤ 3 by decide) (tmS_dead (VX_dead hv) lvX) (hS_ok x _ _ none fun _ _ _ _ h => by cases h) rfl (okF x y _ _ _ m v) h1 (fun b hb => h3F (y := y) b hb) rfl h5 rfl (show 1 ≤ 2 by decide) (fun b o' hb h => nm4 2 (.inr (.inr rfl)) b o' hb h)
    refine StepG.mono this ?_
    rintro e s ⟨rfl, rfl⟩
    exact ⟨rfl, Good.f (VX_dead hv) hk hg⟩
theorem loopT {x : HX} {y : Y} {s : St} (h : By x y) (hG : Good x y 0 s) : StepG Try.prog none (s0 x y) (.loop lb) s fun e s' => e = .exit 0 ∧ Good x y y.m s' := by
  refine StepG.loop (fun m s => ∃ k, m = y.m - k ∧ k ≤ y.m ∧ Good x y k s) ?_ y.m s ⟨0, by omega, Nat.zero_le _, hG⟩
  rintro m s ⟨k, rfl, hk, hg⟩
  by_cases he : k = y.m
  · subst he
    refine (exitX h hg).mono ?_
    rintro e s ⟨rfl, h⟩
    exact .inr ⟨(by intro h; cases h), rfl, h⟩
  · refine (roundT h (by omega) hg).mono ?_
    rintro e s ⟨rfl, h⟩
    exact .inl ⟨rfl, _, by omega, k + 1, rfl, by omega, h⟩
end
end si
end Go.Proofs.Yteknepfcbpoooab
namespace Go.Proofs.Yteknepfcbpoooab
open Go.ChangeShapes Go.WideShapes Go.ChangeAt Go.RowKit Go.Cln
namespace si
open sd se se.rr
open pa (rawN)
open sp (upd)
set_option linter.unusedVariables false
noncomputable section
theorem wsum_set2 : ∀ (l : List Int) (j : Nat) (x y : Int), j % 2 = 0 → j + 1 < l.length → wsum ((l.set j x).set (j + 1) y) + l.getD j 0 * 256 + l.getD (j + 1) 0 = wsum l + x * 256 + y
  | [], j, x, y, _, h => by simp at h
  | [a], j, x, y, _, h => by simp at h
  | a :: b :: l, 0, x, y, _, _ => by simp [wsum]; omega
  | a :: b :: l, 1, x, y, h, _ => by simp at h
  | a :: b :: l, j + 2, x, y, h, hl => by
    have := wsum_set2 l j x y (by omega) (by simp at hl; omega)
    simp only [List.set_cons_succ, wsum, List.getD_cons_succ]
    have e : j + 2 + 1 = (j + 1) + 2 := by omega
    omega
theorem zed_zero {L : List Int} {j : Nat} (h : j + 1 < L.length) : (zed L j).getD j 0 = 0 ∧ (zed L j).getD (j + 1) 0 = 0 := by
  unfold zed
  constructor
  · rw [List.getD_eq_getElem?_getD, List.getElem?_set, if_neg (by omega), List.getElem?_set, if_pos rfl, if_pos (by omega)]; rfl
  · rw [List.getD_eq_getElem?_getD, List.getElem?_set, if_pos rfl, if_pos (by simp; omega)]; rfl
theorem check_ok {L : List Int} {j : Nat} (hB : Byt L) (h : j + 1 < L.length) (he : j % 2 = 0) : sc.car (wsum (lay L j)) = 65535 := by
  have h1 := wsum_set2 (zed L j) j (sm L j / 256) (sm L j % 256) he (by rw [zed_len]; exact h)
  obtain ⟨z1, z2⟩ := zed_zero h
  rw [z1, z2] at h1
  have e : wsum (lay L j) = wsum (zed L j) + sm L j := by
    show wsum (((zed L j).set j (sm L j / 256)).set (j + 1) (sm L j % 256)) = _
    omega
  rw [e]
  have hb := (wsum_bound _ (byt_zed hB j)).1
  unfold sm
  unfold sc.car
  by_cases h0 : wsum (zed L j) ≤ 0
  · rw [if_pos h0]
    rw [if_neg (by omega)]; omega
  · rw [if_neg h0, if_neg (by omega)]; omega
theorem catV_app (D : Nat → List Int) : ∀ (a b : List Value), catV D (a ++ b) = catV D a ++ catV D b
  | [], b => rfl
  | v :: l, b => by
    show rowV2 D v ++ catV D (l ++ b) = rowV2 D v ++ catV D l ++ catV D b
    rw [catV_app D l b, List.append_assoc]
theorem fam_succ (g : Nat → Value) (k : Nat) : famList g 0 (k + 1) = famList g 0 k ++ [g k] := by
  rw [famList_eq, famList_eq, List.range_succ, List.map_append]
  simp
theorem cat1 (D : Nat → List Int) (v : Value) : catV D [v] = rowV2 D v := by show rowV2 D v ++ [] = _; exact List.append_nil _
theorem catF {x : HX} {y : Y} (h : By x y) {g : Nat → Value} : ∀ k, (∀ j, j < k → g j = pc y (aK x y j) (aK x y (j + 1))) → catV x.D (famList g 0 k) = (wk x y).take (aK x y k).toNat
  | 0, _ => by show [] = (wk x y).take 0; rw [List.take_zero]
  | k + 1, hg => by
    have a1 := aK_le x y k
    have a2 := toK_le (x := x) k a1.2
    rw [fam_succ, catV_app, catF h k fun j hj => hg j (by omega), hg k (by omega), cat1]
    exact wo_take h a1.1 a2.1 a2.2
theorem wk_all {x : HX} {y : Y} (h : By x y) : (wk x y).take (nI y.n).toNat = wk x y := List.take_of_length_le (by rw [h.len]; unfold nI; omega)
theorem RB_eq (x : HX) (y : Y) : RB x y = sc.car (wsum (wk x y)) := by
  show sc.car (wsum (catV x.D [PV y.P 0 y.n y.c])) = _
  rw [cat1]; rfl
theorem RL_eq {x : HX} {y : Y} (h : By x y) {g : Nat → Value} {k : Nat} (hg : ∀ j, j < k → g j = pc y (aK x y j) (aK x y (j + 1))) : RL x y g k (aK x y k) = RB x y := by
  have a1 := aK_le x y k
  rw [RB_eq]
  show sc.car (wsum (catV x.D (famList g 0 (k * 1) ++ [pc y (aK x y k) (nI y.n)]))) = _
  rw [Nat.mul_one, catV_app, catF h k hg, cat1]
  have := wo_take h a1.1 a1.2 (Int.le_refl _)
  rw [wk_all h] at this
  exact congrArg (fun l => sc.car (wsum l)) this
theorem rows_of {D : Nat → List Int} {B : Nat} : ∀ {L : List Value}, (∀ v ∈ L, ∃ P o n c, v = .slice (some ⟨P, o, some 1000⟩) n c ∧ (((D P).drop o).take n).length = n ∧ (∀ y ∈ ((D P).drop o).take n, 0 ≤ y ∧ y < 256) ∧ n ≤ B ∧ n ≤ c) → RowsOk D B L
  | [], _ => trivial
  | v :: l, h => by
    obtain ⟨P, o, n, c, rfl, h1, h2, h3, h4⟩ := h v (List.mem_cons_self ..)
    exact ⟨h1, h2, h3, h4, rows_of fun v hv => h v (List.mem_cons_of_mem _ hv)⟩
theorem pc_row {x : HX} {y : Y} (h : By x y) {a to : Int} (h0 : 0 ≤ a) (h1 : a ≤ to) (h2 : to ≤ nI y.n) : ∃ P o n c, pc y a to = .slice (some ⟨P, o, some 1000⟩) n c ∧ (((x.D P).drop o).take n).length = n ∧ (∀ y ∈ ((x.D P).drop o).take n, 0 ≤ y ∧ y < 256) ∧ n ≤ 1000 ∧ n ≤ c := by
  have q3 := h.few
  have q4 := h.room
  have q5 := wo_len h h1 h2
  unfold nI at h2
  exact ⟨_, _, _, _, rfl, q5, wo_byt h h0 h1 h2, by omega, by omega⟩
theorem cB_ok {x : HX} {y : Y} (h : By x y) : cB x y := by
  refine ⟨rfl, rows_of fun v hv => ?_⟩
  simp only [List.mem_cons, List.not_mem_nil, or_false] at hv
  subst hv
  have q3 := h.few
  exact ⟨_, _, _, _, rfl, h.len, h.byt, by omega, h.room⟩
theorem LF_ok {x : HX} {y : Y} (h : By x y) {g : Nat → Value} {k : Nat} (hk : k ≤ 20) (hg : ∀ j, j < k → g j = pc y (aK x y j) (aK x y (j + 1))) : x.F = x.F ∧ (LF y g k (aK x y k)).length = k + 1 ∧ k + 1 ≤ 30 ∧ RowsOk x.D 1000 (LF y g k (aK x y k)) := by
  refine ⟨rfl, ?_, by omega, rows_of fun v hv => ?_⟩
  · unfold LF; rw [Nat.mul_one, famList_eq]; simp
  · unfold LF at hv
    rw [Nat.mul_one, famList_eq] at hv
    rcases List.mem_append.1 hv with hv | hv
    · obtain ⟨j, hj, rfl⟩ := List.mem_map.1 hv
      have hj := List.mem_range.1 hj
      rw [Nat.zero_add, hg j hj]
      have a1 := aK_le x y j
      have a2 := toK_le (x := x) j a1.2
      exact pc_row h a1.1 a2.1 a2.2
    · simp only [List.mem_cons, List.not_mem_nil, or_false] at hv
      subst hv
      have a1 := aK_le x y k
      exact pc_row h a1.1 a1.2 (Int.le_refl _)
theorem tK_all {x : HX} {y : Y} (h : By x y) : tK x y (nI y.n) = wsum (wk x y) := by unfold tK; rw [wk_all h]
variable {x : HX} {y : Y} {g : Nat → Value} {k : Nat} {p : Prop}
theorem hdt_ok (h : By x y) (hk : k ≤ 20) (hg : ∀ j, j < k → g j = pc y (aK x y j) (aK x y (j + 1))) (hp : p) : hdt x y (tK x y (aK x y k)) (aK x y k) (aK x y k) k g p := by
  have a1 := aK_le x y k
  have et := (tK_next h a1.1 a1.2 (Int.le_refl _)).1
  have e1 := RL_eq h hg
  have e2 : sc.car (ts x y (tK x y (aK x y k)) (aK x y k) (aK x y k) (nI y.n)) = RB x y := by rw [et, tK_all h, RB_eq]
  have bt : 0 ≤ ts x y (tK x y (aK x y k)) (aK x y k) (aK x y k) (nI y.n) ∧ ts x y (tK x y (aK x y k)) (aK x y k) (aK x y k) (nI y.n) < 18446744073709551616 := by
    have := tK_b h (Int.natCast_nonneg y.n) (Int.le_refl (nI y.n))
    rw [et]; exact ⟨this.1, by have := this.2; unfold nI at *; omega⟩
  have lf := LF_ok h hk hg
  have cb := cB_ok h
  exact ⟨⟨⟨⟨⟨⟨⟨⟨⟨⟨⟨⟨hp, lf⟩, cb⟩, by rw [e1]; exact bne_self_eq_false _⟩, bt⟩, cb⟩, by rw [e2]; exact bne_self_eq_false _⟩, cb⟩, cb⟩, by rw [beq_self_eq_true]; rfl⟩, cb⟩, cb⟩, bne_self_eq_false _⟩
theorem hdf_ok (h : By x y) (hk : k ≤ 20) (hg : ∀ j, j < k → g j = pc y (aK x y j) (aK x y (j + 1))) (hf : aK x y k = nI y.n) (hp : p) : hdf x y (tK x y (aK x y k)) (aK x y k) k g p := by
  have e1 := RL_eq h hg
  have e2 : sc.car (tK x y (aK x y k)) = RB x y := by rw [hf, tK_all h, RB_eq]
  have bt : 0 ≤ tK x y (aK x y k) ∧ tK x y (aK x y k) < 18446744073709551616 := by
    have a1 := aK_le x y k
    have := tK_b h a1.1 a1.2
    omega
  have lf := LF_ok h hk hg
  have cb := cB_ok h
  exact ⟨⟨⟨⟨⟨⟨⟨⟨⟨⟨⟨⟨hp, lf⟩, cb⟩, by rw [e1]; exact bne_self_eq_false _⟩, bt⟩, cb⟩, by rw [e2]; exact bne_self_eq_false _⟩, cb⟩, cb⟩, by rw [beq_self_eq_true]; rfl⟩, cb⟩, cb⟩, bne_self_eq_false _⟩
end
end si
end Go.Proofs.Yteknepfcbpoooab
namespace Go.Proofs.Yteknepfcbpoooab
open Go.ChangeShapes Go.WideShapes Go.ChangeAt Go.RowKit Go.Cln
namespace si
open sd se se.rr
open pa (rawN)
open sp (upd)
set_option linter.unusedVariables false
noncomputable section
def tl0 (x : HX) (y : Y) (p : Prop) : Prop := ((((((((((((((((((((((((((((((((((p ∧ x.F = x.F ∧ 0 = 0 ∧ Byt (wk x y) ∧ y.n = (wk x y).length ∧ y.n ≤ 1000 ∧ y.n ≤ y.c ∧ okA y.n y.a) ∧ (0 ≤ y.a ∧ y.a < nI y.n)) ∧ 0 + y.a.toNat * 1 < (x.D y.P).length) ∧ IntKind.u16.wrap (b1 x y) = b1 x y) ∧ IntKind.u16.wrap (b1 x y * 256) = b1 x y * 256) ∧ IntKind.i64.wrap (y.a + 1) = y.a + 1) ∧ (0 ≤ y.a + 1 ∧ y.a + 1 < nI y.n)) ∧ 0 + (y.a + 1).toNat * 1 < (x.D y.P).length) ∧ IntKind.u16.wrap (b2 x y) = b2 x y) ∧ IntKind.u16.wrap (was x y) = was x y) ∧ decide (0 + y.n ≤ 0) = false) ∧ bW x y) ∧ IntKind.i64.wrap (y.a + 1) = y.a + 1) ∧ IntKind.u8.wrap (hw y) = hw y) ∧ IntKind.u8.wrap (y.w.tmod 256) = y.w.tmod 256) ∧ (0 ≤ y.a ∧ y.a < nI (0 + y.n))) ∧ 0 + y.a.toNat * 1 + 1 ≤ (wk x y).length) ∧ (0 ≤ y.a + 1 ∧ y.a + 1 < nI (0 + y.n))) ∧ 0 + (y.a + 1).toNat * 1 + 1 ≤ (N1 x y).length) ∧ cB x y) ∧ IntKind.u16.wrap (65535 - RB x y) = 65535 - RB x y) ∧ IntKind.u16.wrap (65535 - (65535 - RB x y)) = 65535 - (65535 - RB x y)) ∧ IntKind.u64.wrap (65535 - (65535 - RB x y)) = 65535 - (65535 - RB x y)) ∧ IntKind.u16.wrap (65535 - was x y) = 65535 - was x y) ∧ IntKind.u64.wrap (65535 - was x y) = 65535 - was x y) ∧ IntKind.u64.wrap (65535 - (65535 - RB x y) + (65535 - was x y)) = 65535 - (65535 - RB x y) + (65535 - was x y)) ∧ IntKind.u64.wrap y.w = y.w) ∧ IntKind.u64.wrap (AA x y) = AA x y) ∧ (0 ≤ AA x y ∧ AA x y < 18446744073709551616)) ∧ IntKind.u16.wrap (65535 - sc.car (AA x y)) = 65535 - sc.car (AA x y)) ∧ own (NW x y) (0 + y.n)) ∧ IntKind.u16.wrap (65535 - rawN (NW x y)) = 65535 - rawN (NW x y)) ∧ own (LY x y) y.n) ∧ (rawN (LY x y) == 65535) = true)
structure Ar (y : Y) : Prop where
  w0 : 0 ≤ y.w
  w1 : y.w < 65536
variable {x : HX} {y : Y} {p : Prop}
structure At (x : HX) (y : Y) : Prop where
  j : 0 ≤ y.a ∧ y.a ≤ (y.n : Int) - 2 ∧ y.a % 2 = 0
  len : (wk x y).length = y.n
  dl : y.n ≤ (x.D y.P).length
  q1 : b1 x y = (wk x y).getD y.a.toNat 0 ∧ 0 ≤ b1 x y ∧ b1 x y < 256
  q2 : b2 x y = (wk x y).getD (y.a.toNat + 1) 0 ∧ 0 ≤ b2 x y ∧ b2 x y < 256
  ehi : hw y = y.w / 256
  lo : y.w.tmod 256 = y.w % 256
  nw : NW x y = ((wk x y).set y.a.toNat (y.w / 256)).set (y.a.toNat + 1) (y.w % 256)
  sum : wsum (NW x y) + was x y = wsum (wk x y) + y.w
  rest : was x y ≤ wsum (wk x y)
  pos : 0 ≤ wsum (NW x y)
  rb : RB x y = sc.car (wsum (wk x y))
  nwo : own (NW x y) y.n
  lyo : own (LY x y) y.n
  lyc : rawN (LY x y) = 65535
theorem wk_at {j : Nat} (hj : j < y.n) : (wk x y).getD j 0 = (x.D y.P).getD j 0 := by
  unfold wk wx
  rw [List.getD_eq_getElem?_getD, List.getElem?_take, if_pos hj, List.drop_zero, List.getD_eq_getElem?_getD]
theorem At.of (h : By x y) (ha : Ar y) (ho : okA y.n y.a) : At x y := by
  obtain ⟨j0, j1, j2⟩ := ho
  have hw0 := ha.w0
  have hw1 := ha.w1
  have hl := h.len
  have hf := h.few
  have byt : ∀ i, i < y.n → 0 ≤ (wk x y).getD i 0 ∧ (wk x y).getD i 0 < 256 := fun i hi => by
    rw [List.getD_eq_getElem?_getD, List.getElem?_eq_getElem (by omega)]
    exact h.byt _ (List.getElem_mem _)
  have e1 : b1 x y = (wk x y).getD y.a.toNat 0 := by
    rw [wk_at (by omega)]; unfold b1; rw [show 0 + y.a.toNat * 1 = y.a.toNat by omega]
  have e2 : b2 x y = (wk x y).getD (y.a.toNat + 1) 0 := by
    rw [wk_at (by omega)]; unfold b2; rw [show 0 + (y.a + 1).toNat * 1 = y.a.toNat + 1 by omega]
  have v1 := byt y.a.toNat (by omega)
  have v2 := byt (y.a.toNat + 1) (by omega)
  have ehw : hw y = y.w / 256 := by
    unfold si.hw
    rw [IntKind.wrap_u16, Int.tdiv_eq_ediv_of_nonneg hw0]; omega
  have elo : y.w.tmod 256 = y.w % 256 := Int.tmod_eq_emod_of_nonneg hw0
  have enw : NW x y = ((wk x y).set y.a.toNat (y.w / 256)).set (y.a.toNat + 1) (y.w % 256) := by
    unfold NW N2 N1
    rw [ehw, elo, show 0 + y.a.toNat * 1 = y.a.toNat by omega, show 0 + (y.a + 1).toNat * 1 = y.a.toNat + 1 by omega, List.drop_zero, Nat.zero_add, List.take_of_length_le (by simp; omega)]
  have hs := wsum_set2 (wk x y) y.a.toNat (y.w / 256) (y.w % 256) (by omega) (by omega)
  have hz := wsum_set2 (wk x y) y.a.toNat 0 0 (by omega) (by omega)
  have hzb := (wsum_bound _ (byt_zed h.byt y.a.toNat)).1
  have hnb : Byt (NW x y) := by
    rw [enw]; exact byt_set (byt_set h.byt _ (by omega)) _ (by omega)
  have hly : LY x y = lay (wk x y) y.a.toNat := by
    unfold LY
    rw [List.drop_zero, List.take_of_length_le (by rw [lay_len]; omega)]
  have ew : was x y = (wk x y).getD y.a.toNat 0 * 256 + (wk x y).getD (y.a.toNat + 1) 0 := by unfold was; rw [e1, e2]
  refine ⟨⟨j0, j1, j2⟩, hl, D_len h, ⟨e1, by rw [e1]; exact v1.1, by rw [e1]; exact v1.2⟩, ⟨e2, by rw [e2]; exact v2.1, by rw [e2]; exact v2.2⟩, ehw, elo, enw, ?_, ?_, (wsum_bound _ hnb).1, RB_eq x y, ⟨hnb, by omega, ?_, by omega, Nat.le_refl _⟩, ⟨?_, by omega, ?_, by omega, Nat.le_refl _⟩, ?_⟩
  · rw [enw, ew]; omega
  · rw [ew]
    unfold zed at hzb
    omega
  · rw [enw]; simp; exact hl
  · rw [hly]; exact byt_lay h.byt _
  · rw [hly, lay_len]; exact hl
  · rw [hly]; exact check_ok h.byt (by omega) (by omega)
theorem ok_ok (h : By x y) (ha : Ar y) (A : At x y) (hp : p) : tl0 x y p := by
  have ho : okA y.n y.a := A.j
  have hl := A.len
  have hd := A.dl
  have hf := h.few
  have w0 := ha.w0
  have w1 := ha.w1
  have nwo := A.nwo
  have lyo := A.lyo
  have lyc := A.lyc
  obtain ⟨j0, j1, j2⟩ := A.j
  obtain ⟨_, v1, v2⟩ := A.q1
  obtain ⟨_, v3, v4⟩ := A.q2
  have ew : was x y = b1 x y * 256 + b2 x y := rfl
  have eh := A.ehi
  have el := A.lo
  have rb := car_b (wsum (wk x y))
  rw [← A.rb] at rb
  have ea : AA x y = 65535 - (65535 - RB x y) + (65535 - was x y) + y.w := rfl
  have ca := car_b (AA x y)
  have cm := car_b (wsum (NW x y))
  have em : rawN (NW x y) = sc.car (wsum (NW x y)) := rfl
  exact ⟨⟨⟨⟨⟨⟨⟨⟨⟨⟨⟨⟨⟨⟨⟨⟨⟨⟨⟨⟨⟨⟨⟨⟨⟨⟨⟨⟨⟨⟨⟨⟨⟨⟨hp, ⟨rfl, rfl, h.byt, h.len.symm, by omega, h.room, ho⟩⟩, by unfold nI; omega⟩, by omega⟩, by rw [IntKind.wrap_u16]; omega⟩, by rw [IntKind.wrap_u16]; omega⟩, by rw [IntKind.wrap_i64]; omega⟩, by unfold nI; omega⟩, by omega⟩, by rw [IntKind.wrap_u16]; omega⟩, by rw [IntKind.wrap_u16]; omega⟩, by rw [decide_eq_false_iff_not]; omega⟩, ⟨.inr (by omega), Nat.le_refl _, by unfold mostBytes; omega, by unfold mostBytes; omega⟩⟩, by rw [IntKind.wrap_i64]; omega⟩, by rw [IntKind.wrap_u8]; omega⟩, by rw [IntKind.wrap_u8]; omega⟩, by unfold nI; omega⟩, by omega⟩, by unfold nI; omega⟩, by unfold N1; rw [List.length_set]; omega⟩, cB_ok h⟩, by rw [IntKind.wrap_u16]; omega⟩, by rw [IntKind.wrap_u16]; omega⟩, by rw [IntKind.wrap_u64]; omega⟩, by rw [IntKind.wrap_u16]; omega⟩, by rw [IntKind.wrap_u64]; omega⟩, by rw [IntKind.wrap_u64]; omega⟩, by rw [IntKind.wrap_u64]; omega⟩, by rw [IntKind.wrap_u64]; omega⟩, by omega⟩, by rw [IntKind.wrap_u16]; omega⟩, by rw [Nat.zero_add]; exact nwo⟩, by rw [IntKind.wrap_u16]; omega⟩, lyo⟩, by rw [lyc]; rfl⟩
theorem ends (h : By x y) (ha : Ar y) (A : At x y) (hp : p) : tleq x y p ∨ tlno x y p := by
  have hk := ok_ok h ha A hp
  have ea : AA x y = 65535 - (65535 - RB x y) + (65535 - was x y) + y.w := rfl
  have em : rawN (NW x y) = sc.car (wsum (NW x y)) := rfl
  have rb := A.rb
  have s1 := A.sum
  have s2 := A.rest
  have s3 := A.pos
  have w0 := ha.w0
  have w1 := ha.w1
  have v1 := A.q1.2
  have v2 := A.q2.2
  have ew : was x y = b1 x y * 256 + b2 x y := rfl
  by_cases hz : wsum (NW x y) = 0
  · have c1 : sc.car (wsum (NW x y)) = 0 := by rw [hz]; rfl
    have c2 : sc.car (AA x y) = 65535 := by
      have : AA x y = 65535 := by
        rw [ea, rb]
        unfold sc.car
        split <;> omega
      rw [this]; rfl
    refine .inr ⟨⟨⟨⟨⟨hk, ?_⟩, ?_⟩, rfl⟩, ?_⟩, trivial⟩
    · rw [em, c1, c2]; rfl
    · rw [c2]; rfl
    · rw [em, c1]; rfl
  · refine .inl ⟨⟨hk, ?_⟩, trivial⟩
    have : sc.car (AA x y) = sc.car (wsum (NW x y)) := by
      rw [ea, rb]
      unfold sc.car
      by_cases h0 : wsum (wk x y) ≤ 0
      · rw [if_pos h0, if_neg (by omega), if_neg (by omega)]; omega
      · rw [if_neg h0, if_neg (by omega), if_neg (by omega)]; omega
    rw [em, this]; exact beq_self_eq_true _
theorem er_ok (h : By x y) (ho : ¬ okA y.n y.a) (hp : p) : tler x y p := ⟨⟨hp, rfl, by have := h.few; omega, ho⟩, trivial⟩
end
end si
end Go.Proofs.Yteknepfcbpoooab
namespace Go.Proofs.Yteknepfcbpoooab
open Go.ChangeShapes Go.WideShapes Go.ChangeAt Go.RowKit Go.Cln
namespace si
open sd se se.rr
open pa (rawN)
open sp (upd)
set_option linter.unusedVariables false
noncomputable section
theorem StepG.ran {P : Program} (G : PG P) {K : Given} (hK : GivenOk P K) {n : Nat} {f : FuncId} {rd : Option Nat} {s0 s : St} {c : Code} {e : Exit} {p : Prop} {o : List (Option Bool)} {d : List Nat} {t : Nat} {b : Bool}
    (hr : ((mk P K n).code f rd c { s with obl := True, orc := o }).map (fun r => (r.1, r.2.obl, r.2.defers, getL r.2.tmps t)) = some (e, p, d, .bool b)) (hp : p) (hn : s0.next ≤ s.next) : StepG P rd s0 c s (fun e' s' => e' = e ∧ s'.defers = d ∧ s'.tmps.getD t undef = .bool b) := by
  cases hc : (mk P K n).code f rd c { s with obl := True, orc := o } with
  | none => rw [hc] at hr; simp at hr
  | some r =>
    obtain ⟨e1, s1⟩ := r
    rw [hc] at hr
    simp only [Option.map_some, Option.some.injEq, Prod.mk.injEq] at hr
    obtain ⟨rfl, h2, h3, h4⟩ := hr
    have l1 : Like s { s with obl := True, orc := o } := ⟨rfl, rfl, rfl, rfl, rfl⟩
    have h := (mk_ok G hK n).okCode hc
    intro m ρ0 w0 w a R g1 g2 ⟨ρ, r, t⟩ g4
    have := h (by rw [h2]; exact hp) m ρ w a R (fun l hl => Nat.lt_of_lt_of_le (g1 l hl) hn) (r.like l1 rfl rfl) fun ρ' w' a' r' t' => g4 _ s1 w' a' ⟨rfl, h3, by rw [← getL_eq]; exact h4⟩ ⟨ρ', r', t.trans (l1.thenTra t')⟩
    rwa [fenceOf_ext g1 t.ext] at this
def Fin (e : Exit) (t : St) : Prop := leaves? e = true ∧ t.defers = [] ∧ t.tmps.getD 8 undef = .bool true
theorem fin {x : HX} {y : Y} {S : St} {o : List (Option Bool)} {p : Prop} (hn : 1 ≤ S.next) (hr : goT x S o = some (.ret, p, [], .bool true)) (hp : p) : StepG Try.prog none (s0 x y) c6 S Fin :=
  (StepG.ran (s0 := s0 x y) sr.pg (KZ_ok x) hr hp hn).mono (by rintro e t ⟨rfl, h1, h2⟩; exact ⟨rfl, h1, h2⟩)
theorem goodE {x : HX} {y : Y} {s : St} (h : By x y) (ha : Ar y) (hG : Good x y y.m s) : StepG Try.prog none (s0 x y) c6 s Fin := by
  have hm20 := h.few2
  generalize hm : y.m = m at hG hm20
  cases hG with
  | n hv =>
    rename_i v
    have a1 := aK_le x y 0
    have pq := pQ_ok h a1.1 a1.2 (Int.le_refl _)
    by_cases he : aK x y 0 < nI y.n
    · have hd := hdt_ok (k := 0) (g := fun _ => undef)  h hm20 (fun j hj => absurd hj (Nat.not_lt_zero j)) (show (((True ∧ pQ y (aK x y 0) (nI y.n)) ∧ pQ y (aK x y 0) (nI y.n)) ∧ w1 x y (tK x y (aK x y 0)) (aK x y 0) (aK x y 0) (nI y.n)) from ⟨⟨⟨trivial, pq⟩, pq⟩, w1_ok h a1.1 he (Int.le_refl _)⟩)
      by_cases ho : okA y.n y.a
      · rcases ends h ha (At.of h ha ho) hd with q | q
        · exact fin (show 1 ≤ 2 by decide) (rNteq (x := x) (y := y) (t := tK x y 0) (s := 0) (f := 0) (v := v) (g := fun _ => undef)) q
        · exact fin (show 1 ≤ 2 by decide) (rNtno (x := x) (y := y) (t := tK x y 0) (s := 0) (f := 0) (v := v) (g := fun _ => undef)) q
      · exact fin (show 1 ≤ 2 by decide) (rNter (x := x) (y := y) (t := tK x y 0) (s := 0) (f := 0) (v := v) (g := fun _ => undef)) (er_ok h ho hd)
    · have hf : aK x y 0 = nI y.n := by omega
      have w00 : w0 x (tK x y (aK x y 0)) (aK x y 0) (aK x y 0) (nI y.n) := by
        have := w0_ok h a1.1 a1.2
        rwa [hf] at this ⊢
      have hd := hdf_ok (k := 0) (g := fun _ => undef)  h hm20 (fun j hj => absurd hj (Nat.not_lt_zero j)) hf (show (((True ∧ pQ y (aK x y 0) (nI y.n)) ∧ pQ y (aK x y 0) (nI y.n)) ∧ w0 x (tK x y (aK x y 0)) (aK x y 0) (aK x y 0) (nI y.n)) from ⟨⟨⟨trivial, pq⟩, pq⟩, w00⟩)
      by_cases ho : okA y.n y.a
      · rcases ends h ha (At.of h ha ho) hd with q | q
        · exact fin (show 1 ≤ 2 by decide) (rNfeq (x := x) (y := y) (t := tK x y 0) (s := 0) (f := 0) (v := v) (g := fun _ => undef)) q
        · exact fin (show 1 ≤ 2 by decide) (rNfno (x := x) (y := y) (t := tK x y 0) (s := 0) (f := 0) (v := v) (g := fun _ => undef)) q
      · exact fin (show 1 ≤ 2 by decide) (rNfer (x := x) (y := y) (t := tK x y 0) (s := 0) (f := 0) (v := v) (g := fun _ => undef)) (er_ok h ho hd)
  | f hv hk hg =>
    rename_i v g
    have a1 := aK_le x y m
    have pq := pQ_ok h a1.1 a1.2 (Int.le_refl _)
    by_cases he : aK x y m < nI y.n
    · have hd := hdt_ok (k := m)  h hm20 hg (show (((((True ∧ pQ y (aK x y m) (nI y.n)) ∧ gr m) ∧ 0 + m * 1 ≤ m) ∧ pQ y (aK x y m) (nI y.n)) ∧ w1 x y (tK x y (aK x y m)) (aK x y m) (aK x y m) (nI y.n)) from ⟨⟨⟨⟨⟨trivial, pq⟩, gr_ok hm20⟩, by omega⟩, pq⟩, w1_ok h a1.1 he (Int.le_refl _)⟩)
      by_cases ho : okA y.n y.a
      · rcases ends h ha (At.of h ha ho) hd with q | q
        · exact fin (show 1 ≤ 3 by decide) (rFteq (x := x) (y := y) (t := tK x y (aK x y m)) (s := (aK x y m)) (f := (aK x y m)) (k := m) (v := v) (g := g)) q
        · exact fin (show 1 ≤ 3 by decide) (rFtno (x := x) (y := y) (t := tK x y (aK x y m)) (s := (aK x y m)) (f := (aK x y m)) (k := m) (v := v) (g := g)) q
      · exact fin (show 1 ≤ 3 by decide) (rFter (x := x) (y := y) (t := tK x y (aK x y m)) (s := (aK x y m)) (f := (aK x y m)) (k := m) (v := v) (g := g)) (er_ok h ho hd)
    · have hf : aK x y m = nI y.n := by omega
      have w00 : w0 x (tK x y (aK x y m)) (aK x y m) (aK x y m) (nI y.n) := by
        have := w0_ok h a1.1 a1.2
        rwa [hf] at this ⊢
      have hd := hdf_ok (k := m)  h hm20 hg hf (show (((((True ∧ pQ y (aK x y m) (nI y.n)) ∧ gr m) ∧ 0 + m * 1 ≤ m) ∧ pQ y (aK x y m) (nI y.n)) ∧ w0 x (tK x y (aK x y m)) (aK x y m) (aK x y m) (nI y.n)) from ⟨⟨⟨⟨⟨trivial, pq⟩, gr_ok hm20⟩, by omega⟩, pq⟩, w00⟩)
      by_cases ho : okA y.n y.a
      · rcases ends h ha (At.of h ha ho) hd with q | q
        · exact fin (show 1 ≤ 3 by decide) (rFfeq (x := x) (y := y) (t := tK x y (aK x y m)) (s := (aK x y m)) (f := (aK x y m)) (k := m) (v := v) (g := g)) q
        · exact fin (show 1 ≤ 3 by decide) (rFfno (x := x) (y := y) (t := tK x y (aK x y m)) (s := (aK x y m)) (f := (aK x y m)) (k := m) (v := v) (g := g)) q
      · exact fin (show 1 ≤ 3 by decide) (rFfer (x := x) (y := y) (t := tK x y (aK x y m)) (s := (aK x y m)) (f := (aK x y m)) (k := m) (v := v) (g := g)) (er_ok h ho hd)
theorem bodyT {x : HX} {y : Y} (h : By x y) (ha : Ar y) : StepG Try.prog none (s0 x y) bodyC (s0 x y) Fin := by
  have hd : ∀ i, DeadV (V0 v00 i) := V0_dead fun _ => DeadV.undef
  have f1 := h.few
  have f2 := h.few2
  refine StepG.seqs (s0 := s0 x y) (c' := c5) (s2 := sQ x y (V0 v00)) (σ := [0, 1]) sr.pg (KZ_ok x) (B := B0) (k := 5) (n := 300) (g := hS x 0 0 none) (rP x y) ⟨⟨trivial, by unfold nI; rw [decide_eq_false_iff_not]; omega⟩, by unfold nI; rw [decide_eq_false_iff_not]; omega⟩ (Nat.le_refl _) (tmQ_dead hd lv0) (hS_ok x 0 0 none fun _ _ _ _ h => by cases h) rfl (okQ x y) ?_
  rw [c5_eq]
  refine StepG.seq (StepG.mono (Q := fun e s => e = .normal ∧ Good x y y.m s) ?_ ?_)
  · refine StepG.seqs (s0 := s0 x y) (c' := .block 0 (.loop lb)) (s2 := sN x y 0 0 0 0 (V0 v00)) (σ := [0, 1]) sr.pg (KZ_ok x) (B := allB) (k := 1) (n := 300) (g := hS x 0 0 none) (rQ x y) trivial (show 1 ≤ 2 by decide) (tmS_dead hd fun _ _ => rfl) (hS_ok x 0 0 none fun _ _ _ _ h => by cases h) rfl (okQ2 x y) ?_
    refine StepG.block ?_
    refine (loopT h (Good.n hd)).mono ?_
    rintro e s ⟨rfl, h⟩
    exact ⟨rfl, h⟩
  · rintro e s ⟨rfl, hg⟩
    exact .inl ⟨rfl, goodE h ha hg⟩
end
end si
end Go.Proofs.Yteknepfcbpoooab
namespace Go.Proofs.Yteknepfcbpoooab
open Go.ChangeShapes Go.WideShapes Go.ChangeAt Go.RowKit Go.Cln
namespace si
open sd se se.rr
open pa (rawN)
set_option linter.unusedVariables false
noncomputable section
def X0 : HX := ⟨fun _ => [], fun _ => []⟩
def zs (i c : Nat) : Value := .slice (some ⟨i, 0, none⟩) 0 c
def cN9 (v1 v2 : Value) (k : Nat) (a w : Int) (o : List (Option Bool)) : Option (Value × St) := (mk Try.prog (KZ X0) 300).call 9 [v1, v2, .int .i64 a, .int .u16 w] (St.start k .leaf o)
def c9 (x : HX) (y : Y) (o : List (Option Bool)) : Option (Value × St) := (mk Try.prog (KZ x) 300).call 9 [PV y.P 0 y.n y.c, cv y.Q y.m y.d, .int .i64 y.a, wU y.w] (smSt 1 [some (.fam x.F)] o)
theorem big1 (x : HX) (y : Y) : (c9 x y [some true]).map (fun r => (r.1, r.2.obl)) = some (.bool true, (True ∧ decide (nI y.n > 500) = true) ∧ True) := by kernel_rfl
theorem big2 (x : HX) (y : Y) : (c9 x y [some false, none, none, none, some true]).map (fun r => (r.1, r.2.obl)) = some (.bool true, ((True ∧ decide (nI y.n > 500) = false) ∧ decide (nI y.m > 20) = true) ∧ True) := by kernel_rfl
def z0 : Prop := (0 : Int) ≤ 0 ∧ (0 : Int) < 18446744073709551616
def z8 : Prop := (((((((True ∧ z0) ∧ z0) ∧ z0) ∧ z0) ∧ z0) ∧ z0) ∧ z0) ∧ z0
theorem z8_ok : z8 := by
  have : z0 := ⟨by decide, by decide⟩
  exact ⟨⟨⟨⟨⟨⟨⟨⟨trivial, this⟩, this⟩, this⟩, this⟩, this⟩, this⟩, this⟩, this⟩
def oLt (k : Nat) : List (Option Bool) := List.replicate k none ++ [some true]
def oGe (k : Nat) : List (Option Bool) := List.replicate k none ++ (some false :: (List.replicate 6 none ++ [some true]))
def pLt (a : Int) : Prop := (z8 ∧ decide (a < 0) = true) ∧ True
def pGe (a : Int) : Prop := ((z8 ∧ decide (a < 0) = false) ∧ decide (IntKind.i64.wrap (((0 : Nat) : Int) - 2) < a) = true) ∧ True
theorem ennLt (a w : Int) : (cN9 (.slice none 0 0) (.slice none 0 0) 0 a w (oLt 102)).map (fun r => (r.1, r.2.obl)) = some (.bool true, pLt a) := by kernel_rfl
theorem ennGe (a w : Int) : (cN9 (.slice none 0 0) (.slice none 0 0) 0 a w (oGe 102)).map (fun r => (r.1, r.2.obl)) = some (.bool true, pGe a) := by kernel_rfl
theorem eznLt (a w : Int) (c : Nat) : (cN9 (zs 0 c) (.slice none 0 0) 1 a w (oLt 104)).map (fun r => (r.1, r.2.obl)) = some (.bool true, pLt a) := by kernel_rfl
theorem eznGe (a w : Int) (c : Nat) : (cN9 (zs 0 c) (.slice none 0 0) 1 a w (oGe 104)).map (fun r => (r.1, r.2.obl)) = some (.bool true, pGe a) := by kernel_rfl
theorem enzLt (a w : Int) (d : Nat) : (cN9 (.slice none 0 0) (zs 0 d) 1 a w (oLt 102)).map (fun r => (r.1, r.2.obl)) = some (.bool true, pLt a) := by kernel_rfl
theorem enzGe (a w : Int) (d : Nat) : (cN9 (.slice none 0 0) (zs 0 d) 1 a w (oGe 102)).map (fun r => (r.1, r.2.obl)) = some (.bool true, pGe a) := by kernel_rfl
theorem ezzLt (a w : Int) (c d : Nat) : (cN9 (zs 0 c) (zs 1 d) 2 a w (oLt 104)).map (fun r => (r.1, r.2.obl)) = some (.bool true, pLt a) := by kernel_rfl
theorem ezzGe (a w : Int) (c d : Nat) : (cN9 (zs 0 c) (zs 1 d) 2 a w (oGe 104)).map (fun r => (r.1, r.2.obl)) = some (.bool true, pGe a) := by kernel_rfl
end
end si
end Go.Proofs.Yteknepfcbpoooab
namespace Go.Proofs.Yteknepfcbpoooab
open Go.ChangeShapes Go.WideShapes Go.ChangeAt Go.RowKit Go.Cln
namespace si
open sd se se.rr
open pa (rawN)
open sp (upd)
set_option linter.unusedVariables false
noncomputable section
def wordsAt : List Value → List Int
  | .int .i64 y :: l => y :: wordsAt l
  | _ => []
theorem wordsAt_get : ∀ {l : List Value} {j : Nat} {y : Int}, (wordsAt l)[j]? = some y → l[j]? = some (.int .i64 y)
  | [], j, y, h => by simp [wordsAt] at h
  | v :: l, j, y, h => by
    unfold wordsAt at h
    split at h
    · rename_i z r e
      cases e
      cases j with
      | zero => simp only [List.getElem?_cons_zero, Option.some.injEq] at h ⊢; rw [h]
      | succ j => simp only [List.getElem?_cons_succ] at h ⊢; exact wordsAt_get h
    · simp at h
theorem wordsAt_len : ∀ {l : List Value} {m : Nat}, (∀ j, j < m → ∃ y, l[j]? = some (.int .i64 y)) → m ≤ (wordsAt l).length
  | l, 0, _ => Nat.zero_le _
  | [], m + 1, h => by obtain ⟨y, hy⟩ := h 0 (by omega); simp at hy
  | v :: l, m + 1, h => by
    obtain ⟨y, hy⟩ := h 0 (by omega)
    simp only [List.getElem?_cons_zero, Option.some.injEq] at hy
    subst hy
    have := wordsAt_len (l := l) (m := m) fun j hj => by
      obtain ⟨z, hz⟩ := h (j + 1) (by omega)
      exact ⟨z, by simpa using hz⟩
    simp only [wordsAt, List.length_cons]; omega
def worldI (W : World) (P : Nat) : List Int := match W.heap[blkOf P]? with
  | some (.cells pc _ _) => wordsAt (pc.toList.drop (baseOf P))
  | _ => []
theorem worldI_get {W : World} {P j : Nat} {y : Int} (h : (worldI W P)[j]? = some y) : ∃ pc t fr, W.heap[blkOf P]? = some (.cells pc t fr) ∧ pc[baseOf P + j]? = some (.int .i64 y) := by
  unfold worldI at h
  split at h
  · rename_i pc t fr hc
    have := wordsAt_get h
    rw [List.getElem?_drop] at this
    exact ⟨pc, t, fr, hc, by simpa using this⟩
  · simp at h
theorem worldI_row {W : World} {b o m : Nat} {f : Nat → Int} (h : ∀ j, j < m → W.cell? ⟨b, o + j, none⟩ = some (.int .i64 (f j)) ∧ (Lit.int .i64 (f j)).wf = true) (h0 : m ≠ 0) : m ≤ (worldI W (plc b o)).length := by
  obtain ⟨pc, t, fr, k1, _⟩ := cell_in (h 0 (by omega)).1
  have at_ : ∀ j, j < m → pc[o + j]? = some (.int .i64 (f j)) := fun j hj => by
    obtain ⟨pc', t', fr', q1, q2⟩ := cell_in (h j hj).1
    rw [k1] at q1; cases q1; exact q2
  unfold worldI
  rw [blkOf_plc, baseOf_plc, k1]
  refine wordsAt_len fun j hj => ⟨f j, ?_⟩
  rw [List.getElem?_drop]
  simpa using at_ j hj
def hxW (W : World) : HX := ⟨worldB W, worldI W⟩
theorem startH {W : World} (hW : 0 < W.heap.size) (orc : List (Option Bool)) : ∃ ρ : Nat → PB, Hs (smSt 1 [some (.fam (hxW W).F)] orc) ρ W := by
  have get : ∀ (k : Nat) (ob : Ob), (smSt 1 [some (.fam (hxW W).F)] orc).heap.get k = some ob → k = 0 ∧ ob = .fam (hxW W).F := fun k ob hk => by
    have hk : (Tr.ofL [some (.fam (hxW W).F)]).get k = some ob := hk
    rw [ofL_get (by simp)] at hk
    rcases k with _ | k
    · simp only [hget, List.getElem?_cons_zero] at hk
      cases hk; exact ⟨rfl, rfl⟩
    · simp [hget] at hk
  have d0 : Dm (smSt 1 [some (.fam (hxW W).F)] orc) 0 := ⟨(show 0 < 1 by decide), rfl⟩
  refine ⟨fun _ => ⟨0, 0, 0⟩, ⟨⟨fun k ob hk => ?_, fun k k' ob ob' hk hk' hm _ => ?_, fun k k' ob ob' B hk hB hk' hm => ?_⟩, fun _ _ => rfl, ⟨Nat.le_refl _, fun z hz => by simp [smSt] at hz⟩⟩⟩
  · obtain ⟨rfl, rfl⟩ := get k ob hk
    refine ⟨d0, fun hm => absurd (show 1 ≤ 0 from hm) (by omega), hW, fun g P i v hv => ?_⟩
    unfold HX.F at hv
    split at hv
    · simp only [Cells.get, Option.map_eq_some_iff] at hv
      obtain ⟨y, hy, rfl⟩ := hv
      obtain ⟨pc, t, fr, k1, k2⟩ := worldI_get hy
      exact ⟨pc, t, fr, _, k1, k2, .same rfl, rfl⟩
    · simp only [Cells.get, Option.map_eq_some_iff] at hv
      obtain ⟨y, hy, rfl⟩ := hv
      obtain ⟨pc, t, fr, k1, k2⟩ := worldB_get hy
      exact ⟨pc, t, fr, _, k1, k2, .same rfl, rfl⟩
  · have hm : 1 ≤ k ∨ 1 ≤ k' := hm
    have e1 : k < 1 := by have := (get k ob hk).1; omega
    have e2 : k' < 1 := by have := (get k' ob' hk').1; omega
    omega
  · have hm : 1 ≤ k' := hm
    have e2 : k' < 1 := by have := (get k' ob' hk').1; omega
    omega
theorem by_of {W : World} {a : Option Addr} {n c : Nat} (s : (a = none ∧ n = 0 ∧ c = 0) ∨ ∃ b o, a = some ⟨b, o, none⟩ ∧ n ≤ c ∧ (c : Int) ≤ 9223372036854775807)
    (z : n = 0 ∨ ∃ (b o : Nat) (f : Nat → Int), a = some ⟨b, o, none⟩ ∧ b < W.heap.size ∧ ∀ j, j < n → W.cell? ⟨b, o + j, none⟩ = some (.int .u8 (f j)) ∧ (Lit.int .u8 (f j)).wf = true) :
    ∃ P c2 : Nat, AbsOk P 0 n c2 (.slice a n c) ∧ (wx (hxW W) P 0 n).length = n ∧ n ≤ c2 ∧ Byt (wx (hxW W) P 0 n) := by
  by_cases h0 : n = 0
  · subst h0
    have e : wx (hxW W) (plc 0 0) 0 0 = [] := by
      show ((worldB W (plc 0 0)).drop 0).take 0 = []
      rw [List.take_zero]
    exact ⟨plc 0 0, 0, AbsOk.none, by rw [e]; rfl, Nat.le_refl _, by rw [e]; exact fun z hz => by cases hz⟩
  · rcases z with h | ⟨b, o, f, rfl, hb, hf⟩
    · exact absurd h h0
    · have hc : n ≤ c := by
        rcases s with ⟨h, _⟩ | ⟨_, _, _, hc, _⟩
        · cases h
        · exact hc
      obtain ⟨q1, q2⟩ := worldB_row hf h0
      refine ⟨plc b o, c, AbsOk.of hc, ?_, hc, ?_⟩
      · show (((worldB W (plc b o)).drop 0).take n).length = n
        rw [List.drop_zero]; exact q1
      · show Byt (((worldB W (plc b o)).drop 0).take n)
        rw [List.drop_zero]; exact q2
theorem cuts_of {W : World} {a : Option Addr} {n c : Nat} (s : (a = none ∧ n = 0 ∧ c = 0) ∨ ∃ b o, a = some ⟨b, o, none⟩ ∧ n ≤ c ∧ (c : Int) ≤ 9223372036854775807)
    (z : n = 0 ∨ ∃ (b o : Nat) (f : Nat → Int), a = some ⟨b, o, none⟩ ∧ b < W.heap.size ∧ ∀ j, j < n → W.cell? ⟨b, o + j, none⟩ = some (.int .i64 (f j)) ∧ (Lit.int .i64 (f j)).wf = true) :
    ∃ Q c2 : Nat, AbsOk Q 0 n c2 (.slice a n c) ∧ n ≤ ((hxW W).C Q).length := by
  by_cases h0 : n = 0
  · subst h0
    exact ⟨plc 0 0, 0, AbsOk.none, Nat.zero_le _⟩
  · rcases z with h | ⟨b, o, f, rfl, hb, hf⟩
    · exact absurd h h0
    · have hc : n ≤ c := by
        rcases s with ⟨h, _⟩ | ⟨_, _, _, hc, _⟩
        · cases h
        · exact hc
      exact ⟨plc b o, c, AbsOk.of hc, worldI_row hf h0⟩
theorem holdsW {W : World} (hW : 0 < W.heap.size) {v1 v2 : Value} {y : Y} (ha : Ar y) (u1 : AbsOk y.P 0 y.n y.c v1) (u2 : AbsOk y.Q 0 y.m y.d v2) (h1 : (wk (hxW W) y).length = y.n) (h2 : y.n ≤ y.c) (h3 : Byt (wk (hxW W) y)) (h4 : y.m ≤ ((hxW W).C y.Q).length) :
    Calls Try.prog 9 #[v1, v2, .int .i64 y.a, .int .u16 y.w] W fun e w' => e = .returned (.bool true) ∧ Below W.heap.size W w' := by
  have d0 : ∀ orc, Dm (smSt 1 [some (.fam (hxW W).F)] orc) 0 := fun orc => ⟨(show 0 < 1 by decide), rfl⟩
  have va : ∀ orc ρ, Go.Cln.VL (Dm (smSt 1 [some (.fam (hxW W).F)] orc)) ρ [PV y.P 0 y.n y.c, cv y.Q y.m y.d, .int .i64 y.a, wU y.w] [v1, v2, .int .i64 y.a, .int .u16 y.w] := fun orc ρ =>
    Go.Cln.VL.cons (.abs (d0 orc) rfl u1) (Go.Cln.VL.cons (.abs (d0 orc) rfl u2) (Go.Cln.VL.cons (.of_flat rfl) (Go.Cln.VL.cons (.of_flat rfl) Go.Cln.VL.nil)))
  have fin : ∀ (orc : List (Option Bool)) (p : Prop), (c9 (hxW W) y orc).map (fun r => (r.1, r.2.obl)) = some (.bool true, p) → p →
      Calls Try.prog 9 #[v1, v2, .int .i64 y.a, .int .u16 y.w] W fun e w' => e = .returned (.bool true) ∧ Below W.heap.size W w' := fun orc p hr hp => by
    obtain ⟨ρ, g1⟩ := startH hW orc
    exact ranG sr.pg (KZ_ok (hxW W)) (ρ := ρ) hr hp rfl g1 (va orc ρ)
  by_cases h6 : nI y.n > 500
  · exact fin _ _ (big1 ..) ⟨⟨trivial, decide_eq_true h6⟩, trivial⟩
  by_cases h7 : nI y.m > 20
  · exact fin _ _ (big2 ..) ⟨⟨⟨trivial, decide_eq_false h6⟩, decide_eq_true h7⟩, trivial⟩
  have hB : By (hxW W) y := ⟨h1, h2, h3, by unfold nI at h6; omega, h4, by unfold nI at h7; omega⟩
  obtain ⟨ρ, g1⟩ := startH hW []
  have hf := fn9
  cases e : Try.prog.funcs[9]? with
  | none => rw [e] at hf; cases hf
  | some f =>
    rw [e] at hf
    simp only [Option.map_some, Option.some.injEq, Prod.mk.injEq] at hf
    obtain ⟨f1, f2, f3⟩ := hf
    have hb := bodyT hB ha
    have key : ∀ (l : List Value), l = [PV y.P 0 y.n y.c, cv y.Q y.m y.d, .int .i64 y.a, wU y.w] → StepG Try.prog none { St.start 1 (Tr.ofL [some (.fam (hxW W).F)]) [] with tmps := l ++ List.replicate (f.ntmps - l.length) undef, defers := [] } bodyC { St.start 1 (Tr.ofL [some (.fam (hxW W).F)]) [] with tmps := l ++ List.replicate (f.ntmps - l.length) undef, defers := [] } Fin := by
      rintro l rfl
      rw [f3]
      exact hb
    exact calls_ofG (args := [PV y.P 0 y.n y.c, cv y.Q y.m y.d, .int .i64 y.a, wU y.w]) (args' := [v1, v2, .int .i64 y.a, .int .u16 y.w]) (ρ := ρ) e f1 f2 (key _ rfl) g1 (va [] ρ)
theorem sumHolds (W : World) (a0 : Option Addr) (n0 c0 : Nat) (s0 : (a0 = none ∧ n0 = 0 ∧ c0 = 0) ∨ ∃ b o, a0 = some ⟨b, o, none⟩ ∧ n0 ≤ c0 ∧ (c0 : Int) ≤ 9223372036854775807)
    (z0 : n0 = 0 ∨ ∃ (b o : Nat) (f : Nat → Int), a0 = some ⟨b, o, none⟩ ∧ b < W.heap.size ∧ ∀ j, j < n0 → W.cell? ⟨b, o + j, none⟩ = some (.int .u8 (f j)) ∧ (Lit.int .u8 (f j)).wf = true)
    (a1 : Option Addr) (n1 c1 : Nat) (s1 : (a1 = none ∧ n1 = 0 ∧ c1 = 0) ∨ ∃ b o, a1 = some ⟨b, o, none⟩ ∧ n1 ≤ c1 ∧ (c1 : Int) ≤ 9223372036854775807)
    (z1 : n1 = 0 ∨ ∃ (b o : Nat) (f : Nat → Int), a1 = some ⟨b, o, none⟩ ∧ b < W.heap.size ∧ ∀ j, j < n1 → W.cell? ⟨b, o + j, none⟩ = some (.int .i64 (f j)) ∧ (Lit.int .i64 (f j)).wf = true)
    (a w : Int) (hw : (Lit.int .u16 w).wf = true) :
    Calls Try.prog 9 #[.slice a0 n0 c0, .slice a1 n1 c1, .int .i64 a, .int .u16 w] W fun e w' => e = .returned (.bool true) ∧ Below W.heap.size W w' := by
  have hw2 : 0 ≤ w ∧ w < 65536 := by
    have h : IntKind.u16.min ≤ w ∧ w ≤ IntKind.u16.max := by simpa [Lit.wf] using hw
    have e1 : IntKind.u16.min = 0 := by decide
    have e2 : IntKind.u16.max = 65535 := by decide
    rw [e1, e2] at h; omega
  by_cases hW : 0 < W.heap.size
  · obtain ⟨P, c, u1, q1, q2, q3⟩ := by_of s0 z0
    obtain ⟨Q, d, u2, q4⟩ := cuts_of s1 z1
    exact holdsW hW (y := ⟨P, n0, c, Q, n1, d, a, w⟩) ⟨hw2.1, hw2.2⟩ u1 u2 q1 q2 q3 q4
  · have e1 : n0 = 0 := by
      rcases z0 with h | ⟨_, _, _, _, hb, _⟩
      · exact h
      · omega
    have e2 : n1 = 0 := by
      rcases z1 with h | ⟨_, _, _, _, hb, _⟩
      · exact h
      · omega
    subst e1; subst e2
    have kn := KZ_ok X0
    have lt : a < 0 → pLt a := fun h => ⟨⟨z8_ok, decide_eq_true h⟩, trivial⟩
    have ge : ¬ a < 0 → pGe a := fun h => ⟨⟨⟨z8_ok, decide_eq_false h⟩, by rw [decide_eq_true_eq, IntKind.wrap_i64]; omega⟩, trivial⟩
    by_cases ha : a < 0
    · have hp := lt ha
      rcases s0 with ⟨rfl, _, rfl⟩ | ⟨b, o, rfl, hc, _⟩ <;> rcases s1 with ⟨rfl, _, rfl⟩ | ⟨b', o', rfl, hc', _⟩
      · exact ranG sr.pg kn (ρ := fun _ => ⟨0, 0, 0⟩) (ennLt a w) hp rfl (named_hs 0 _ _ W) (Go.Cln.VL.cons (VR.same rfl) (Go.Cln.VL.cons (VR.same rfl) (Go.Cln.VL.cons (.of_flat rfl) (Go.Cln.VL.cons (.of_flat rfl) Go.Cln.VL.nil))))
      · exact ranG sr.pg kn (ρ := fun _ => ⟨b', o', 0⟩) (enzLt a w c1) hp rfl (named_hs 1 _ _ W) (Go.Cln.VL.cons (VR.same rfl) (Go.Cln.VL.cons (VR.unread (a := ⟨b', o', none⟩) (by decide) rfl rfl hc') (Go.Cln.VL.cons (.of_flat rfl) (Go.Cln.VL.cons (.of_flat rfl) Go.Cln.VL.nil))))
      · exact ranG sr.pg kn (ρ := fun _ => ⟨b, o, 0⟩) (eznLt a w c0) hp rfl (named_hs 1 _ _ W) (Go.Cln.VL.cons (VR.unread (a := ⟨b, o, none⟩) (by decide) rfl rfl hc) (Go.Cln.VL.cons (VR.same rfl) (Go.Cln.VL.cons (.of_flat rfl) (Go.Cln.VL.cons (.of_flat rfl) Go.Cln.VL.nil))))
      · exact ranG sr.pg kn (ρ := fun k => if k = 0 then ⟨b, o, 0⟩ else ⟨b', o', 0⟩) (ezzLt a w c0 c1) hp rfl (named_hs 2 _ _ W) (Go.Cln.VL.cons (VR.unread (a := ⟨b, o, none⟩) (by decide) rfl rfl hc) (Go.Cln.VL.cons (VR.unread (a := ⟨b', o', none⟩) (by decide) rfl rfl hc') (Go.Cln.VL.cons (.of_flat rfl) (Go.Cln.VL.cons (.of_flat rfl) Go.Cln.VL.nil))))
    · have hp := ge ha
      rcases s0 with ⟨rfl, _, rfl⟩ | ⟨b, o, rfl, hc, _⟩ <;> rcases s1 with ⟨rfl, _, rfl⟩ | ⟨b', o', rfl, hc', _⟩
      · exact ranG sr.pg kn (ρ := fun _ => ⟨0, 0, 0⟩) (ennGe a w) hp rfl (named_hs 0 _ _ W) (Go.Cln.VL.cons (VR.same rfl) (Go.Cln.VL.cons (VR.same rfl) (Go.Cln.VL.cons (.of_flat rfl) (Go.Cln.VL.cons (.of_flat rfl) Go.Cln.VL.nil))))
      · exact ranG sr.pg kn (ρ := fun _ => ⟨b', o', 0⟩) (enzGe a w c1) hp rfl (named_hs 1 _ _ W) (Go.Cln.VL.cons (VR.same rfl) (Go.Cln.VL.cons (VR.unread (a := ⟨b', o', none⟩) (by decide) rfl rfl hc') (Go.Cln.VL.cons (.of_flat rfl) (Go.Cln.VL.cons (.of_flat rfl) Go.Cln.VL.nil))))
      · exact ranG sr.pg kn (ρ := fun _ => ⟨b, o, 0⟩) (eznGe a w c0) hp rfl (named_hs 1 _ _ W) (Go.Cln.VL.cons (VR.unread (a := ⟨b, o, none⟩) (by decide) rfl rfl hc) (Go.Cln.VL.cons (VR.same rfl) (Go.Cln.VL.cons (.of_flat rfl) (Go.Cln.VL.cons (.of_flat rfl) Go.Cln.VL.nil))))
      · exact ranG sr.pg kn (ρ := fun k => if k = 0 then ⟨b, o, 0⟩ else ⟨b', o', 0⟩) (ezzGe a w c0 c1) hp rfl (named_hs 2 _ _ W) (Go.Cln.VL.cons (VR.unread (a := ⟨b, o, none⟩) (by decide) rfl rfl hc) (Go.Cln.VL.cons (VR.unread (a := ⟨b', o', none⟩) (by decide) rfl rfl hc') (Go.Cln.VL.cons (.of_flat rfl) (Go.Cln.VL.cons (.of_flat rfl) Go.Cln.VL.nil))))
end
end si
end Go.Proofs.Yteknepfcbpoooab
