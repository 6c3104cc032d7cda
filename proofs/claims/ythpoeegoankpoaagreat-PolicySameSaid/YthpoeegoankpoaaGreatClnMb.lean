/- Read off the code by the clean reading. -/
import Derived.Test.YthpoeegoankpoaaGreatClnMa
set_option linter.unusedVariables false
set_option linter.unusedSimpArgs false
set_option linter.deprecated false
set_option maxRecDepth 100000
namespace Go.Proofs.YthpoeegoankpoaaGreat
open Go.ChangeShapes Go.WideShapes Go.ChangeAt Go.RowKit Go.Cln
namespace ob
set_option linter.unusedVariables false
noncomputable section
theorem rd28 {x : MX} {P n c Q m d : Nat} (hP : ruOk x P n) (hQ : ruOk x Q m) : Rd Tryz.prog x.F 28 (a28 P n c Q m d) (.bool (rulesE x P n Q m)) := by
  by_cases hnm : n = m
  rotate_left
  · rw [show rulesE x P n Q m = false by unfold rulesE; rw [beq_ne hnm]; rfl]
    exact Rd.run pg KN_ok (kN0_28 x P n c Q m d) ⟨trivial, by simp [nI]; omega⟩ rfl
  subst hnm
  rw [show rulesE x P n Q n = allB (ruleE x P Q) n by unfold rulesE; rw [beq_self n]; rfl]
  obtain ⟨p1, p2⟩ := hP
  obtain ⟨q1, q2⟩ := hQ
  refine cmp_rd (way := [2, 2, 3, 2, 0]) (pic := fun i v => s28 x P n c Q n d i v) (e := ruleE x P Q) (N := n) (v0 := VD28 vU) (s0 := z28 x P n c Q n d) rfl fn28 (fun Q_ h => StepG.downs pg KN_ok (kD28 x P n c Q n d) ⟨trivial, by simp⟩ (tm28_dead (VD28_dead vU_dead) lvD28) (h28_ok x P n c Q n d) rfl (okD28 x P n c Q n d 0 vU) h) (up28 x P n c Q n d) (fun i v hv hi he => ?_) (fun i v hv hi he => ?_) (fun v hv => ?_) (fun v hv => ?_) (VD28_dead vU_dead)
  · refine (StepG.stdT (s0 := z28 x P n c Q n d) (rd := none) pg KN_ok (kR28 x P n c Q n d i v) ?_ (show 1 ≤ 1 by decide) (tm28_dead (VR28_dead hv) lvR28) (h28_ok x P n c Q n d) rfl (okR28 x P n c Q n d (i + 1) v)).mono ?_
    · unfold ruleE at he
      simp only [Bool.and_eq_true] at he
      obtain ⟨k0, k1, k2, k3, k4, k5, k6, k7, k8, k9, k10, k11, k12, k13, k14⟩ := he
      exact ⟨⟨⟨⟨⟨⟨⟨⟨⟨⟨⟨⟨⟨⟨⟨⟨⟨⟨⟨⟨⟨trivial, decide_eq_true (by unfold nI; omega)⟩, by unfold nI; omega⟩, ⟨by omega, by omega⟩⟩, by unfold nI; omega⟩, ⟨by omega, by omega⟩⟩, k0⟩, k1⟩, k2⟩, k3⟩, k4⟩, k5⟩, k6⟩, k7⟩, k8⟩, k9⟩, k10⟩, k11⟩, k12⟩, k13⟩, k14⟩, by rw [IntKind.wrap_i64]; unfold nI; omega⟩
    · rintro ex s_ ⟨rfl, rfl⟩
      exact ⟨rfl, _, VR28_dead hv, rfl⟩
  · unfold ruleE at he
    by_cases k0 : (x.A P (ix2 i) == x.A Q (ix2 i)) = true
    rotate_left
    · exact StepG.ranV (s0 := z28 x P n c Q n d) (rd := none) pg KN_ok (kF0_28 x P n c Q n d i v) ⟨⟨⟨⟨⟨⟨trivial, decide_eq_true (by unfold nI; omega)⟩, by unfold nI; omega⟩, ⟨by omega, by omega⟩⟩, by unfold nI; omega⟩, ⟨by omega, by omega⟩⟩, (Bool.eq_false_iff.2 k0)⟩ (show 1 ≤ 1 by decide)
    rw [k0, Bool.true_and] at he
    by_cases k1 : (x.B P (ix2 i) == x.B Q (ix2 i)) = true
    rotate_left
    · exact StepG.ranV (s0 := z28 x P n c Q n d) (rd := none) pg KN_ok (kF1_28 x P n c Q n d i v) ⟨⟨⟨⟨⟨⟨⟨trivial, decide_eq_true (by unfold nI; omega)⟩, by unfold nI; omega⟩, ⟨by omega, by omega⟩⟩, by unfold nI; omega⟩, ⟨by omega, by omega⟩⟩, k0⟩, (Bool.eq_false_iff.2 k1)⟩ (show 1 ≤ 1 by decide)
    rw [k1, Bool.true_and] at he
    by_cases k2 : (x.C P (ix2 i) == x.C Q (ix2 i)) = true
    rotate_left
    · exact StepG.ranV (s0 := z28 x P n c Q n d) (rd := none) pg KN_ok (kF2_28 x P n c Q n d i v) ⟨⟨⟨⟨⟨⟨⟨⟨trivial, decide_eq_true (by unfold nI; omega)⟩, by unfold nI; omega⟩, ⟨by omega, by omega⟩⟩, by unfold nI; omega⟩, ⟨by omega, by omega⟩⟩, k0⟩, k1⟩, (Bool.eq_false_iff.2 k2)⟩ (show 1 ≤ 1 by decide)
    rw [k2, Bool.true_and] at he
    by_cases k3 : (x.D P (ix2 i) == x.D Q (ix2 i)) = true
    rotate_left
    · exact StepG.ranV (s0 := z28 x P n c Q n d) (rd := none) pg KN_ok (kF3_28 x P n c Q n d i v) ⟨⟨⟨⟨⟨⟨⟨⟨⟨trivial, decide_eq_true (by unfold nI; omega)⟩, by unfold nI; omega⟩, ⟨by omega, by omega⟩⟩, by unfold nI; omega⟩, ⟨by omega, by omega⟩⟩, k0⟩, k1⟩, k2⟩, (Bool.eq_false_iff.2 k3)⟩ (show 1 ≤ 1 by decide)
    rw [k3, Bool.true_and] at he
    by_cases k4 : (x.E P (ix2 i) == x.E Q (ix2 i)) = true
    rotate_left
    · exact StepG.ranV (s0 := z28 x P n c Q n d) (rd := none) pg KN_ok (kF4_28 x P n c Q n d i v) ⟨⟨⟨⟨⟨⟨⟨⟨⟨⟨trivial, decide_eq_true (by unfold nI; omega)⟩, by unfold nI; omega⟩, ⟨by omega, by omega⟩⟩, by unfold nI; omega⟩, ⟨by omega, by omega⟩⟩, k0⟩, k1⟩, k2⟩, k3⟩, (Bool.eq_false_iff.2 k4)⟩ (show 1 ≤ 1 by decide)
    rw [k4, Bool.true_and] at he
    by_cases k5 : (x.G P (ix2 i) == x.G Q (ix2 i)) = true
    rotate_left
    · exact StepG.ranV (s0 := z28 x P n c Q n d) (rd := none) pg KN_ok (kF5_28 x P n c Q n d i v) ⟨⟨⟨⟨⟨⟨⟨⟨⟨⟨⟨trivial, decide_eq_true (by unfold nI; omega)⟩, by unfold nI; omega⟩, ⟨by omega, by omega⟩⟩, by unfold nI; omega⟩, ⟨by omega, by omega⟩⟩, k0⟩, k1⟩, k2⟩, k3⟩, k4⟩, (Bool.eq_false_iff.2 k5)⟩ (show 1 ≤ 1 by decide)
    rw [k5, Bool.true_and] at he
    by_cases k6 : (x.H P (ix2 i) == x.H Q (ix2 i)) = true
    rotate_left
    · exact StepG.ranV (s0 := z28 x P n c Q n d) (rd := none) pg KN_ok (kF6_28 x P n c Q n d i v) ⟨⟨⟨⟨⟨⟨⟨⟨⟨⟨⟨⟨trivial, decide_eq_true (by unfold nI; omega)⟩, by unfold nI; omega⟩, ⟨by omega, by omega⟩⟩, by unfold nI; omega⟩, ⟨by omega, by omega⟩⟩, k0⟩, k1⟩, k2⟩, k3⟩, k4⟩, k5⟩, (Bool.eq_false_iff.2 k6)⟩ (show 1 ≤ 1 by decide)
    rw [k6, Bool.true_and] at he
    by_cases k7 : (x.I P (ix2 i) == x.I Q (ix2 i)) = true
    rotate_left
    · exact StepG.ranV (s0 := z28 x P n c Q n d) (rd := none) pg KN_ok (kF7_28 x P n c Q n d i v) ⟨⟨⟨⟨⟨⟨⟨⟨⟨⟨⟨⟨⟨trivial, decide_eq_true (by unfold nI; omega)⟩, by unfold nI; omega⟩, ⟨by omega, by omega⟩⟩, by unfold nI; omega⟩, ⟨by omega, by omega⟩⟩, k0⟩, k1⟩, k2⟩, k3⟩, k4⟩, k5⟩, k6⟩, (Bool.eq_false_iff.2 k7)⟩ (show 1 ≤ 1 by decide)
    rw [k7, Bool.true_and] at he
    by_cases k8 : (x.J P (ix2 i) == x.J Q (ix2 i)) = true
    rotate_left
    · exact StepG.ranV (s0 := z28 x P n c Q n d) (rd := none) pg KN_ok (kF8_28 x P n c Q n d i v) ⟨⟨⟨⟨⟨⟨⟨⟨⟨⟨⟨⟨⟨⟨trivial, decide_eq_true (by unfold nI; omega)⟩, by unfold nI; omega⟩, ⟨by omega, by omega⟩⟩, by unfold nI; omega⟩, ⟨by omega, by omega⟩⟩, k0⟩, k1⟩, k2⟩, k3⟩, k4⟩, k5⟩, k6⟩, k7⟩, (Bool.eq_false_iff.2 k8)⟩ (show 1 ≤ 1 by decide)
    rw [k8, Bool.true_and] at he
    by_cases k9 : (x.K P (ix2 i) == x.K Q (ix2 i)) = true
    rotate_left
    · exact StepG.ranV (s0 := z28 x P n c Q n d) (rd := none) pg KN_ok (kF9_28 x P n c Q n d i v) ⟨⟨⟨⟨⟨⟨⟨⟨⟨⟨⟨⟨⟨⟨⟨trivial, decide_eq_true (by unfold nI; omega)⟩, by unfold nI; omega⟩, ⟨by omega, by omega⟩⟩, by unfold nI; omega⟩, ⟨by omega, by omega⟩⟩, k0⟩, k1⟩, k2⟩, k3⟩, k4⟩, k5⟩, k6⟩, k7⟩, k8⟩, (Bool.eq_false_iff.2 k9)⟩ (show 1 ≤ 1 by decide)
    rw [k9, Bool.true_and] at he
    by_cases k10 : (x.L P (ix2 i) == x.L Q (ix2 i)) = true
    rotate_left
    · exact StepG.ranV (s0 := z28 x P n c Q n d) (rd := none) pg KN_ok (kF10_28 x P n c Q n d i v) ⟨⟨⟨⟨⟨⟨⟨⟨⟨⟨⟨⟨⟨⟨⟨⟨trivial, decide_eq_true (by unfold nI; omega)⟩, by unfold nI; omega⟩, ⟨by omega, by omega⟩⟩, by unfold nI; omega⟩, ⟨by omega, by omega⟩⟩, k0⟩, k1⟩, k2⟩, k3⟩, k4⟩, k5⟩, k6⟩, k7⟩, k8⟩, k9⟩, (Bool.eq_false_iff.2 k10)⟩ (show 1 ≤ 1 by decide)
    rw [k10, Bool.true_and] at he
    by_cases k11 : (x.M P (ix2 i) == x.M Q (ix2 i)) = true
    rotate_left
    · exact StepG.ranV (s0 := z28 x P n c Q n d) (rd := none) pg KN_ok (kF11_28 x P n c Q n d i v) ⟨⟨⟨⟨⟨⟨⟨⟨⟨⟨⟨⟨⟨⟨⟨⟨⟨trivial, decide_eq_true (by unfold nI; omega)⟩, by unfold nI; omega⟩, ⟨by omega, by omega⟩⟩, by unfold nI; omega⟩, ⟨by omega, by omega⟩⟩, k0⟩, k1⟩, k2⟩, k3⟩, k4⟩, k5⟩, k6⟩, k7⟩, k8⟩, k9⟩, k10⟩, (Bool.eq_false_iff.2 k11)⟩ (show 1 ≤ 1 by decide)
    rw [k11, Bool.true_and] at he
    by_cases k12 : (x.O P (ix2 i) == x.O Q (ix2 i)) = true
    rotate_left
    · exact StepG.ranV (s0 := z28 x P n c Q n d) (rd := none) pg KN_ok (kF12_28 x P n c Q n d i v) ⟨⟨⟨⟨⟨⟨⟨⟨⟨⟨⟨⟨⟨⟨⟨⟨⟨⟨trivial, decide_eq_true (by unfold nI; omega)⟩, by unfold nI; omega⟩, ⟨by omega, by omega⟩⟩, by unfold nI; omega⟩, ⟨by omega, by omega⟩⟩, k0⟩, k1⟩, k2⟩, k3⟩, k4⟩, k5⟩, k6⟩, k7⟩, k8⟩, k9⟩, k10⟩, k11⟩, (Bool.eq_false_iff.2 k12)⟩ (show 1 ≤ 1 by decide)
    rw [k12, Bool.true_and] at he
    by_cases k13 : (x.Q P (ix2 i) == x.Q Q (ix2 i)) = true
    rotate_left
    · exact StepG.ranV (s0 := z28 x P n c Q n d) (rd := none) pg KN_ok (kF13_28 x P n c Q n d i v) ⟨⟨⟨⟨⟨⟨⟨⟨⟨⟨⟨⟨⟨⟨⟨⟨⟨⟨⟨trivial, decide_eq_true (by unfold nI; omega)⟩, by unfold nI; omega⟩, ⟨by omega, by omega⟩⟩, by unfold nI; omega⟩, ⟨by omega, by omega⟩⟩, k0⟩, k1⟩, k2⟩, k3⟩, k4⟩, k5⟩, k6⟩, k7⟩, k8⟩, k9⟩, k10⟩, k11⟩, k12⟩, (Bool.eq_false_iff.2 k13)⟩ (show 1 ≤ 1 by decide)
    rw [k13, Bool.true_and] at he
    exact StepG.ranV (s0 := z28 x P n c Q n d) (rd := none) pg KN_ok (kF14_28 x P n c Q n d i v) ⟨⟨⟨⟨⟨⟨⟨⟨⟨⟨⟨⟨⟨⟨⟨⟨⟨⟨⟨⟨trivial, decide_eq_true (by unfold nI; omega)⟩, by unfold nI; omega⟩, ⟨by omega, by omega⟩⟩, by unfold nI; omega⟩, ⟨by omega, by omega⟩⟩, k0⟩, k1⟩, k2⟩, k3⟩, k4⟩, k5⟩, k6⟩, k7⟩, k8⟩, k9⟩, k10⟩, k11⟩, k12⟩, k13⟩, he⟩ (show 1 ≤ 1 by decide)
  · refine (StepG.stdT (s0 := z28 x P n c Q n d) (rd := none) pg KN_ok (kX28 x P n c Q n d n v) ⟨trivial, decide_eq_false (by omega)⟩ (show 1 ≤ 1 by decide) (tm28_dead (VX28_dead hv) lvX28) (h28_ok x P n c Q n d) rfl (okX28 x P n c Q n d n v)).mono ?_
    rintro ex s_ ⟨rfl, rfl⟩
    exact ⟨rfl, _, VX28_dead hv, rfl⟩
  · exact StepG.ranV pg KN_ok (kE28 x P n c Q n d n v) trivial (show 1 ≤ 1 by decide)
theorem rd15 {x : MX} {a b : PV} (hP : ruOk x a.P a.n) (hQ : ruOk x b.P b.n) : Rd Tryz.prog x.F 15 (a15 a b) (.bool (polE x a b)) := by
  obtain ⟨p1, p2⟩ := hP
  obtain ⟨q1, q2⟩ := hQ
  by_cases h1 : (a.e == b.e) = true
  rotate_left
  · have h1 : (a.e == b.e) = false := Bool.eq_false_iff.2 h1
    rw [show polE x a b = false by simp only [polE, h1, Bool.false_and]]
    exact Rd.run pg KN_ok (kN0_15 x a b) ⟨trivial, bne_t h1⟩ rfl
  by_cases hnm : a.n = b.n
  rotate_left
  · rw [show polE x a b = false by simp only [polE, rulesE, beq_ne hnm, Bool.false_and, Bool.and_false]]
    exact Rd.run pg KN_ok (kN1_15 x a b) ⟨⟨trivial, bne_f h1⟩, by simp [nI]; omega⟩ rfl
  rw [show polE x a b = allB (ruleE x a.P b.P) a.n by simp only [polE, rulesE, h1, Bool.true_and, ← hnm, beq_self]]
  refine cmp_rd (way := [2, 2, 3, 2, 0]) (pic := fun i v => s15 x a b i v) (e := ruleE x a.P b.P) (N := a.n) (v0 := VD15 vU) (s0 := z15 x a b) rfl fn15 (fun Q_ h => StepG.downs pg KN_ok (kD15 x a b) ⟨⟨trivial, bne_f h1⟩, by rw [hnm]; simp⟩ (tm15_dead (VD15_dead vU_dead) lvD15) (h15_ok x a b) rfl (okD15 x a b 0 vU) h) (up15 x a b) (fun i v hv hi he => ?_) (fun i v hv hi he => ?_) (fun v hv => ?_) (fun v hv => ?_) (VD15_dead vU_dead)
  · refine (StepG.stdT (s0 := z15 x a b) (rd := none) pg KN_ok (kR15 x a b i v) ?_ (show 1 ≤ 3 by decide) (tm15_dead (VR15_dead hv) lvR15) (h15_ok x a b) rfl (okR15 x a b (i + 1) v)).mono ?_
    · unfold ruleE at he
      simp only [Bool.and_eq_true] at he
      obtain ⟨k0, k1, k2, k3, k4, k5, k6, k7, k8, k9, k10, k11, k12, k13, k14⟩ := he
      exact ⟨⟨⟨⟨⟨⟨⟨⟨⟨⟨⟨⟨⟨⟨⟨⟨⟨⟨⟨⟨⟨trivial, decide_eq_true (by unfold nI; omega)⟩, by unfold nI; omega⟩, ⟨by omega, by omega⟩⟩, by unfold nI; omega⟩, ⟨by omega, by omega⟩⟩, k0⟩, k1⟩, k2⟩, k3⟩, k4⟩, k5⟩, k6⟩, k7⟩, k8⟩, k9⟩, k10⟩, k11⟩, k12⟩, k13⟩, k14⟩, by rw [IntKind.wrap_i64]; unfold nI; omega⟩
    · rintro ex s_ ⟨rfl, rfl⟩
      exact ⟨rfl, _, VR15_dead hv, rfl⟩
  · unfold ruleE at he
    by_cases k0 : (x.A a.P (ix2 i) == x.A b.P (ix2 i)) = true
    rotate_left
    · exact StepG.ranV (s0 := z15 x a b) (rd := none) pg KN_ok (kF0_15 x a b i v) ⟨⟨⟨⟨⟨⟨trivial, decide_eq_true (by unfold nI; omega)⟩, by unfold nI; omega⟩, ⟨by omega, by omega⟩⟩, by unfold nI; omega⟩, ⟨by omega, by omega⟩⟩, (Bool.eq_false_iff.2 k0)⟩ (show 1 ≤ 3 by decide)
    rw [k0, Bool.true_and] at he
    by_cases k1 : (x.B a.P (ix2 i) == x.B b.P (ix2 i)) = true
    rotate_left
    · exact StepG.ranV (s0 := z15 x a b) (rd := none) pg KN_ok (kF1_15 x a b i v) ⟨⟨⟨⟨⟨⟨⟨trivial, decide_eq_true (by unfold nI; omega)⟩, by unfold nI; omega⟩, ⟨by omega, by omega⟩⟩, by unfold nI; omega⟩, ⟨by omega, by omega⟩⟩, k0⟩, (Bool.eq_false_iff.2 k1)⟩ (show 1 ≤ 3 by decide)
    rw [k1, Bool.true_and] at he
    by_cases k2 : (x.C a.P (ix2 i) == x.C b.P (ix2 i)) = true
    rotate_left
    · exact StepG.ranV (s0 := z15 x a b) (rd := none) pg KN_ok (kF2_15 x a b i v) ⟨⟨⟨⟨⟨⟨⟨⟨trivial, decide_eq_true (by unfold nI; omega)⟩, by unfold nI; omega⟩, ⟨by omega, by omega⟩⟩, by unfold nI; omega⟩, ⟨by omega, by omega⟩⟩, k0⟩, k1⟩, (Bool.eq_false_iff.2 k2)⟩ (show 1 ≤ 3 by decide)
    rw [k2, Bool.true_and] at he
    by_cases k3 : (x.D a.P (ix2 i) == x.D b.P (ix2 i)) = true
    rotate_left
    · exact StepG.ranV (s0 := z15 x a b) (rd := none) pg KN_ok (kF3_15 x a b i v) ⟨⟨⟨⟨⟨⟨⟨⟨⟨trivial, decide_eq_true (by unfold nI; omega)⟩, by unfold nI; omega⟩, ⟨by omega, by omega⟩⟩, by unfold nI; omega⟩, ⟨by omega, by omega⟩⟩, k0⟩, k1⟩, k2⟩, (Bool.eq_false_iff.2 k3)⟩ (show 1 ≤ 3 by decide)
    rw [k3, Bool.true_and] at he
    by_cases k4 : (x.E a.P (ix2 i) == x.E b.P (ix2 i)) = true
    rotate_left
    · exact StepG.ranV (s0 := z15 x a b) (rd := none) pg KN_ok (kF4_15 x a b i v) ⟨⟨⟨⟨⟨⟨⟨⟨⟨⟨trivial, decide_eq_true (by unfold nI; omega)⟩, by unfold nI; omega⟩, ⟨by omega, by omega⟩⟩, by unfold nI; omega⟩, ⟨by omega, by omega⟩⟩, k0⟩, k1⟩, k2⟩, k3⟩, (Bool.eq_false_iff.2 k4)⟩ (show 1 ≤ 3 by decide)
    rw [k4, Bool.true_and] at he
    by_cases k5 : (x.G a.P (ix2 i) == x.G b.P (ix2 i)) = true
    rotate_left
    · exact StepG.ranV (s0 := z15 x a b) (rd := none) pg KN_ok (kF5_15 x a b i v) ⟨⟨⟨⟨⟨⟨⟨⟨⟨⟨⟨trivial, decide_eq_true (by unfold nI; omega)⟩, by unfold nI; omega⟩, ⟨by omega, by omega⟩⟩, by unfold nI; omega⟩, ⟨by omega, by omega⟩⟩, k0⟩, k1⟩, k2⟩, k3⟩, k4⟩, (Bool.eq_false_iff.2 k5)⟩ (show 1 ≤ 3 by decide)
    rw [k5, Bool.true_and] at he
    by_cases k6 : (x.H a.P (ix2 i) == x.H b.P (ix2 i)) = true
    rotate_left
    · exact StepG.ranV (s0 := z15 x a b) (rd := none) pg KN_ok (kF6_15 x a b i v) ⟨⟨⟨⟨⟨⟨⟨⟨⟨⟨⟨⟨trivial, decide_eq_true (by unfold nI; omega)⟩, by unfold nI; omega⟩, ⟨by omega, by omega⟩⟩, by unfold nI; omega⟩, ⟨by omega, by omega⟩⟩, k0⟩, k1⟩, k2⟩, k3⟩, k4⟩, k5⟩, (Bool.eq_false_iff.2 k6)⟩ (show 1 ≤ 3 by decide)
    rw [k6, Bool.true_and] at he
    by_cases k7 : (x.I a.P (ix2 i) == x.I b.P (ix2 i)) = true
    rotate_left
    · exact StepG.ranV (s0 := z15 x a b) (rd := none) pg KN_ok (kF7_15 x a b i v) ⟨⟨⟨⟨⟨⟨⟨⟨⟨⟨⟨⟨⟨trivial, decide_eq_true (by unfold nI; omega)⟩, by unfold nI; omega⟩, ⟨by omega, by omega⟩⟩, by unfold nI; omega⟩, ⟨by omega, by omega⟩⟩, k0⟩, k1⟩, k2⟩, k3⟩, k4⟩, k5⟩, k6⟩, (Bool.eq_false_iff.2 k7)⟩ (show 1 ≤ 3 by decide)
    rw [k7, Bool.true_and] at he
    by_cases k8 : (x.J a.P (ix2 i) == x.J b.P (ix2 i)) = true
    rotate_left
    · exact StepG.ranV (s0 := z15 x a b) (rd := none) pg KN_ok (kF8_15 x a b i v) ⟨⟨⟨⟨⟨⟨⟨⟨⟨⟨⟨⟨⟨⟨trivial, decide_eq_true (by unfold nI; omega)⟩, by unfold nI; omega⟩, ⟨by omega, by omega⟩⟩, by unfold nI; omega⟩, ⟨by omega, by omega⟩⟩, k0⟩, k1⟩, k2⟩, k3⟩, k4⟩, k5⟩, k6⟩, k7⟩, (Bool.eq_false_iff.2 k8)⟩ (show 1 ≤ 3 by decide)
    rw [k8, Bool.true_and] at he
    by_cases k9 : (x.K a.P (ix2 i) == x.K b.P (ix2 i)) = true
    rotate_left
    · exact StepG.ranV (s0 := z15 x a b) (rd := none) pg KN_ok (kF9_15 x a b i v) ⟨⟨⟨⟨⟨⟨⟨⟨⟨⟨⟨⟨⟨⟨⟨trivial, decide_eq_true (by unfold nI; omega)⟩, by unfold nI; omega⟩, ⟨by omega, by omega⟩⟩, by unfold nI; omega⟩, ⟨by omega, by omega⟩⟩, k0⟩, k1⟩, k2⟩, k3⟩, k4⟩, k5⟩, k6⟩, k7⟩, k8⟩, (Bool.eq_false_iff.2 k9)⟩ (show 1 ≤ 3 by decide)
    rw [k9, Bool.true_and] at he
    by_cases k10 : (x.L a.P (ix2 i) == x.L b.P (ix2 i)) = true
    rotate_left
    · exact StepG.ranV (s0 := z15 x a b) (rd := none) pg KN_ok (kF10_15 x a b i v) ⟨⟨⟨⟨⟨⟨⟨⟨⟨⟨⟨⟨⟨⟨⟨⟨trivial, decide_eq_true (by unfold nI; omega)⟩, by unfold nI; omega⟩, ⟨by omega, by omega⟩⟩, by unfold nI; omega⟩, ⟨by omega, by omega⟩⟩, k0⟩, k1⟩, k2⟩, k3⟩, k4⟩, k5⟩, k6⟩, k7⟩, k8⟩, k9⟩, (Bool.eq_false_iff.2 k10)⟩ (show 1 ≤ 3 by decide)
    rw [k10, Bool.true_and] at he
    by_cases k11 : (x.M a.P (ix2 i) == x.M b.P (ix2 i)) = true
    rotate_left
    · exact StepG.ranV (s0 := z15 x a b) (rd := none) pg KN_ok (kF11_15 x a b i v) ⟨⟨⟨⟨⟨⟨⟨⟨⟨⟨⟨⟨⟨⟨⟨⟨⟨trivial, decide_eq_true (by unfold nI; omega)⟩, by unfold nI; omega⟩, ⟨by omega, by omega⟩⟩, by unfold nI; omega⟩, ⟨by omega, by omega⟩⟩, k0⟩, k1⟩, k2⟩, k3⟩, k4⟩, k5⟩, k6⟩, k7⟩, k8⟩, k9⟩, k10⟩, (Bool.eq_false_iff.2 k11)⟩ (show 1 ≤ 3 by decide)
    rw [k11, Bool.true_and] at he
    by_cases k12 : (x.O a.P (ix2 i) == x.O b.P (ix2 i)) = true
    rotate_left
    · exact StepG.ranV (s0 := z15 x a b) (rd := none) pg KN_ok (kF12_15 x a b i v) ⟨⟨⟨⟨⟨⟨⟨⟨⟨⟨⟨⟨⟨⟨⟨⟨⟨⟨trivial, decide_eq_true (by unfold nI; omega)⟩, by unfold nI; omega⟩, ⟨by omega, by omega⟩⟩, by unfold nI; omega⟩, ⟨by omega, by omega⟩⟩, k0⟩, k1⟩, k2⟩, k3⟩, k4⟩, k5⟩, k6⟩, k7⟩, k8⟩, k9⟩, k10⟩, k11⟩, (Bool.eq_false_iff.2 k12)⟩ (show 1 ≤ 3 by decide)
    rw [k12, Bool.true_and] at he
    by_cases k13 : (x.Q a.P (ix2 i) == x.Q b.P (ix2 i)) = true
    rotate_left
    · exact StepG.ranV (s0 := z15 x a b) (rd := none) pg KN_ok (kF13_15 x a b i v) ⟨⟨⟨⟨⟨⟨⟨⟨⟨⟨⟨⟨⟨⟨⟨⟨⟨⟨⟨trivial, decide_eq_true (by unfold nI; omega)⟩, by unfold nI; omega⟩, ⟨by omega, by omega⟩⟩, by unfold nI; omega⟩, ⟨by omega, by omega⟩⟩, k0⟩, k1⟩, k2⟩, k3⟩, k4⟩, k5⟩, k6⟩, k7⟩, k8⟩, k9⟩, k10⟩, k11⟩, k12⟩, (Bool.eq_false_iff.2 k13)⟩ (show 1 ≤ 3 by decide)
    rw [k13, Bool.true_and] at he
    exact StepG.ranV (s0 := z15 x a b) (rd := none) pg KN_ok (kF14_15 x a b i v) ⟨⟨⟨⟨⟨⟨⟨⟨⟨⟨⟨⟨⟨⟨⟨⟨⟨⟨⟨⟨trivial, decide_eq_true (by unfold nI; omega)⟩, by unfold nI; omega⟩, ⟨by omega, by omega⟩⟩, by unfold nI; omega⟩, ⟨by omega, by omega⟩⟩, k0⟩, k1⟩, k2⟩, k3⟩, k4⟩, k5⟩, k6⟩, k7⟩, k8⟩, k9⟩, k10⟩, k11⟩, k12⟩, k13⟩, he⟩ (show 1 ≤ 3 by decide)
  · refine (StepG.stdT (s0 := z15 x a b) (rd := none) pg KN_ok (kX15 x a b a.n v) ⟨trivial, decide_eq_false (by omega)⟩ (show 1 ≤ 3 by decide) (tm15_dead (VX15_dead hv) lvX15) (h15_ok x a b) rfl (okX15 x a b a.n v)).mono ?_
    rintro ex s_ ⟨rfl, rfl⟩
    exact ⟨rfl, _, VX15_dead hv, rfl⟩
  · exact StepG.ranV pg KN_ok (kE15 x a b a.n v) trivial (show 1 ≤ 3 by decide)
end
end ob
end Go.Proofs.YthpoeegoankpoaaGreat
namespace Go.Proofs.YthpoeegoankpoaaGreat
open Go.ChangeShapes Go.WideShapes Go.ChangeAt Go.RowKit Go.Cln
namespace ob
set_option linter.unusedVariables false
noncomputable section
noncomputable def T1 (x : MX) (f : FuncId) (args : List Value) : Option (Value × Prop) :=
  if f == 28 then (match args with
    | [.slice (some ⟨P, 0, some 1000⟩) n c, .slice (some ⟨Q, 0, some 1000⟩) m d] => some (.bool (rulesE x P n Q m), ruOk x P n ∧ ruOk x Q m)
    | _ => none)
  else none
theorem T1_ok (x : MX) (f : FuncId) (args : List Value) (r : Value × Prop) (h : T1 x f args = some r) : flat r.1 = true ∧ args.all farV = true ∧ (r.2 → Rd Tryz.prog x.F f args r.1) := by
  unfold T1 at h
  split at h
  · rename_i hf
    have hf : f = 28 := by simpa using hf
    subst hf
    split at h
    · cases h
      exact ⟨rfl, rfl, fun hp => rd28 hp.1 hp.2⟩
    · cases h
  · cases h
noncomputable def K1 (x : MX) : Given := { Given.rds Given.nothing x.F (T1 x) with fits := true }
theorem K1_ok (x : MX) : GivenOk Tryz.prog (K1 x) := frames_fits ((GivenOk.nothing _).rds (T1_ok x)) true
noncomputable def call_ (K : Given) (x : MX) (f : FuncId) (args : List Value) (o : List (Option Bool)) : Option (Value × St) := (mk Tryz.prog K 300).call f args (smSt 1 [some (.fam x.F)] o)
theorem c14f (x : MX) (a b : PV) : (call_ (K1 x) x 14 [a.v, b.v] [some false]).map (fun r => (r.1, r.2.obl)) = some (.bool false, True ∧ (a.e == b.e) = false) := by kernel_rfl
theorem c14t (x : MX) (a b : PV) : (call_ (K1 x) x 14 [a.v, b.v] [some true]).map (fun r => (r.1, r.2.obl)) = some (.bool (rulesE x a.P a.n b.P b.n), (True ∧ (a.e == b.e) = true) ∧ (x.F = x.F ∧ ruOk x a.P a.n ∧ ruOk x b.P b.n)) := by kernel_rfl
theorem rd14 {x : MX} {a b : PV} (ha : ruOk x a.P a.n) (hb : ruOk x b.P b.n) : Rd Tryz.prog x.F 14 [a.v, b.v] (.bool (polE x a b)) := by
  by_cases h1 : (a.e == b.e) = true
  · rw [show polE x a b = rulesE x a.P a.n b.P b.n by simp only [polE, h1, Bool.true_and]]
    exact Rd.run pg (K1_ok x) (c14t x a b) ⟨⟨trivial, h1⟩, rfl, ha, hb⟩ rfl
  · have h1 : (a.e == b.e) = false := Bool.eq_false_iff.2 h1
    rw [show polE x a b = false by simp only [polE, h1, Bool.false_and]]
    exact Rd.run pg (K1_ok x) (c14f x a b) ⟨trivial, h1⟩ rfl
noncomputable def MX.also (x : MX) (P P' m : Nat) : MX where
  RN R := if R = P' then m else x.RN R
  A R i := x.A (if R = P' then P else R) i
  B R i := x.B (if R = P' then P else R) i
  C R i := x.C (if R = P' then P else R) i
  D R i := x.D (if R = P' then P else R) i
  E R i := x.E (if R = P' then P else R) i
  G R i := x.G (if R = P' then P else R) i
  H R i := x.H (if R = P' then P else R) i
  I R i := x.I (if R = P' then P else R) i
  J R i := x.J (if R = P' then P else R) i
  K R i := x.K (if R = P' then P else R) i
  L R i := x.L (if R = P' then P else R) i
  M R i := x.M (if R = P' then P else R) i
  O R i := x.O (if R = P' then P else R) i
  Q R i := x.Q (if R = P' then P else R) i
  T R i := x.T (if R = P' then P else R) i
theorem also_row (x : MX) (P P' m R i : Nat) : (x.also P P' m).row R i = x.row (if R = P' then P else R) i := rfl
theorem also_rule (x : MX) (P P' m i : Nat) : ruleE (x.also P P' m) P P' i = true := by
  unfold ruleE MX.also
  have e : (if P = P' then P else P) = P := by split <;> rfl
  simp only [e, if_true, beq_self_eq_true, Bool.and_self]
theorem own_hs {x : MX} {s : St} {ρ : Nat → PB} {w : World} {P m j : Nat} {t : TypeId} (hs : Hs s ρ w) (h0 : s.heap.get 0 = some (.fam x.F)) (hj : s.heap.get j = some (.cells (.rows m 15 (x.row P)) t)) :
    Hs (smSt 1 [some (.fam (x.also P (plc (ρ j).blk (ρ j).off) m).F)] []) (fun _ => ρ 0) w := by
  obtain ⟨d0, f1, f2, f3⟩ := hs.ob 0 _ h0
  obtain ⟨dj, pc, tj, fr, k1, k2, k3, k4⟩ := hs.ob j _ hj
  refine ⟨⟨fun b o hb => ?_, fun b b' o o' hb hb' _ _ => by rw [(fam_get hb).1, (fam_get hb').1], fun b b' o o' B hb hB hb' hk => ?_⟩, fun _ _ => rfl, ⟨Nat.le_refl _, fun y hy => by simp [smSt] at hy⟩⟩
  · obtain ⟨rfl, rfl⟩ := fam_get hb
    refine ⟨fam_dm, fun h => absurd (show 1 ≤ 0 from h) (by omega), f2, fun g R i v hv => ?_⟩
    by_cases hR : R = plc (ρ j).blk (ρ j).off
    · have hv2 : (Cells.rows m 15 (x.row P)).get i = some v := by
        have hv : (Cells.rows (if R = plc (ρ j).blk (ρ j).off then m else x.RN R) 15 ((x.also P (plc (ρ j).blk (ρ j).off) m).row R)).get i = some v := hv
        simp only [Cells.get, also_row, if_pos hR] at hv ⊢
        exact hv
      obtain ⟨v', q1, q2⟩ := k4 i v hv2
      have hf : famV v = true := by
        simp only [Cells.get] at hv2
        split at hv2
        · have hm := List.mem_of_getElem? hv2
          unfold MX.row at hm
          simp only [List.mem_cons, List.not_mem_nil, or_false] at hm
          rcases hm with rfl | rfl | rfl | rfl | rfl | rfl | rfl | rfl | rfl | rfl | rfl | rfl | rfl | rfl | rfl <;> rfl
        · cases hv2
      subst hR
      exact ⟨pc, tj, fr, v', by rw [blkOf_plc]; exact k1, by rw [baseOf_plc]; exact q1, famV_vr q2 hf fam_dm, hf⟩
    · have hv2 : (x.F g R).get i = some v := by
        have hv : (Cells.rows (if R = plc (ρ j).blk (ρ j).off then m else x.RN R) 15 ((x.also P (plc (ρ j).blk (ρ j).off) m).row R)).get i = some v := hv
        show (Cells.rows (x.RN R) 15 (x.row R)).get i = some v
        simp only [Cells.get, also_row, if_neg hR] at hv ⊢
        exact hv
      obtain ⟨pc, t, fr, v', q1, q2, q3, q4⟩ := f3 g R i v hv2
      exact ⟨pc, t, fr, v', q1, q2, famV_vr q3 q4 fam_dm, q4⟩
  · obtain ⟨rfl, rfl⟩ := fam_get hb'
    exact absurd (show 1 ≤ 0 from hk) (by omega)
theorem own_abs {N : Nat → Prop} {ρ : Nat → PB} {j m c : Nat} {g : Option Nat} {v' : Value} (hg : isAbs g = false) (hv : VR N ρ (.slice (some ⟨j, 0, g⟩) m c) v') : ∃ c', AbsOk (plc (ρ j).blk (ρ j).off) 0 m c' v' := by
  obtain ⟨a', c', rfl, hle, hat⟩ : ∃ a' c', v' = .slice (some a') m c' ∧ m ≤ c' ∧ (c' = 0 ∨ a' = ⟨(ρ j).blk, (ρ j).off, none⟩) := by
    cases hv with
    | same hf => simp [flat0] at hf
    | slice _ hn hk =>
      obtain ⟨k1, k2, k3⟩ := hk
      refine ⟨_, _, rfl, ?_, by rcases k1 with h | h; exact .inl h; exact .inr (by rw [h, Nat.add_zero])⟩
      cases g with
      | none => rw [k2 rfl]; exact hn
      | some z => exact Nat.le_trans hn (k3 z rfl).1
    | abs _ h _ => rw [h] at hg; cases hg
  refine ⟨c', ?_⟩
  rcases hat with h | rfl
  · subst h
    exact ⟨hle, .inr ⟨rfl, some a', 0, by rw [show m = 0 by omega]⟩⟩
  · exact AbsOk.of hle
end
end ob
end Go.Proofs.YthpoeegoankpoaaGreat
namespace Go.Proofs.YthpoeegoankpoaaGreat
open Go.ChangeShapes Go.WideShapes Go.ChangeAt Go.RowKit Go.Cln
namespace ob
set_option linter.unusedVariables false
noncomputable section
noncomputable def FLw (x : MX) (f : FuncId) (args : List Value) (s : St) : Option (Value × Prop) :=
  if f == 14 || f == 15 then (match args with
    | [.agg a, .agg b] => (match a.toList with
      | [.slice (some ⟨P, 0, some 1000⟩) n c, .bool e] => (match s.heap.get 0 with
        | some (.fam G) => (match b.toList with
          | [.slice (some ⟨Q, 0, some 1000⟩) m d, .bool e'] => some (.bool (polE x ⟨P, n, c, e⟩ ⟨Q, m, d, e'⟩), G = x.F ∧ ruOk x P n ∧ ruOk x Q m)
          | [.slice (some ⟨j, 0, some 15⟩) m d, .bool e'] => (match f == 14 with
            | true => (match s.heap.get j with
              | some (.cells (.rows m' w row) _) => some (.bool (e == e'), G = x.F ∧ row = x.row P ∧ w = 15 ∧ m' = m ∧ m = n ∧ ruOk x P n)
              | _ => none)
            | false => none)
          | [.slice (some ⟨j, 0, none⟩) 0 0, .bool e'] => (match f == 14 with
            | true => some (.bool (e == e'), G = x.F ∧ n = 0)
            | false => none)
          | _ => none)
        | _ => none)
      | _ => none)
    | _ => none)
  else none
theorem agg_eq {a : Array Value} {l : List Value} (h : a.toList = l) : a = l.toArray := by rw [← h]
theorem pol_back {N N' : Nat → Prop} {ρ ρ' : Nat → PB} {j m d : Nat} {g : Option Nat} {e : Bool} {v : Value} (hg : isAbs g = false) (h0 : N' 0) (h : VR N ρ (.agg #[.slice (some ⟨j, 0, g⟩) m d, .bool e]) v) :
    ∃ c', VR N' ρ' (PV.v ⟨plc (ρ j).blk (ρ j).off, m, c', e⟩) v := by
  cases h with
  | same hf => simp [flat0] at hf
  | agg h1 h2 =>
    rename_i x'
    have l2 : x'.toList.length = 2 := by rw [← h1]; rfl
    obtain ⟨u, w, hx⟩ : ∃ u w, x'.toList = [u, w] := by
      rcases hl : x'.toList with _ | ⟨u, _ | ⟨w, _ | ⟨z, l⟩⟩⟩
      · rw [hl] at l2; cases l2
      · rw [hl] at l2; cases l2
      · exact ⟨u, w, rfl⟩
      · rw [hl] at l2; simp at l2
    have k0 := h2 0 (.slice (some ⟨j, 0, g⟩) m d) u rfl (by rw [hx]; rfl)
    have k1 := h2 1 (.bool e) w rfl (by rw [hx]; rfl)
    obtain ⟨c', hc⟩ := own_abs hg k0
    have ew := k1.eq_flat0 rfl
    refine ⟨c', .agg (by rw [l2]; rfl) fun i a b ha hb => ?_⟩
    rw [hx] at hb
    have ha : (PV.l ⟨plc (ρ j).blk (ρ j).off, m, c', e⟩)[i]? = some a := ha
    rcases i with _ | _ | i
    · cases ha; cases hb; exact .abs h0 rfl hc
    · cases ha; cases hb; rw [ew]; exact .same rfl
    · cases ha
theorem FLw_ok (x : MX) (f : FuncId) (args : List Value) (s : St) (r : Value × Prop) (h : FLw x f args s = some r) : flat r.1 = true ∧ (r.2 → ∀ (ρ : Nat → PB) (w : World) (args' : List Value), Hs s ρ w → VL (Dm s) ρ args args' → Calls Tryz.prog f args'.toArray w fun e w' => e = .returned r.1 ∧ Go.RowKit.Below w.heap.size w w') := by
  unfold FLw at h
  split at h
  rotate_left
  · cases h
  rename_i hf
  have hf : f = 14 ∨ f = 15 := by simpa using hf
  split at h
  rotate_left
  · cases h
  rename_i a b
  split at h
  rotate_left
  · cases h
  rename_i P n c e ha
  have ea := agg_eq ha
  subst ea
  split at h
  rotate_left
  · cases h
  rename_i G h0
  split at h
  · rename_i Q m d e' hb
    have eb := agg_eq hb
    subst eb
    cases h
    refine ⟨rfl, fun ⟨hG, hP, hQ⟩ ρ w args' hs hl => ?_⟩
    cases (show G = x.F from hG)
    have hl2 := fam_vl (F := x.F) (orc := []) hl (by rfl)
    rcases hf with rfl | rfl
    · exact rd14 (a := ⟨P, n, c, e⟩) (b := ⟨Q, m, d, e'⟩) hP hQ _ w args' (fam_hs hs h0 []) hl2
    · exact rd15 (a := ⟨P, n, c, e⟩) (b := ⟨Q, m, d, e'⟩) hP hQ _ w args' (fam_hs hs h0 []) hl2
  · rename_i j m d e' hb
    have eb := agg_eq hb
    subst eb
    split at h
    rotate_left
    · cases h
    rename_i hf14
    have hf14 : f = 14 := by simpa using hf14
    subst hf14
    split at h
    rotate_left
    · cases h
    rename_i m' wd row t hj
    cases h
    refine ⟨rfl, fun ⟨hG, hrow, hw, hm', hm, hP⟩ ρ w args' hs hl => ?_⟩
    cases (show G = x.F from hG)
    subst hrow
    subst hw
    subst hm'
    subst hm
    obtain ⟨v1, r1, rfl, q1, hr⟩ := hl.inv_cons
    obtain ⟨v2, r2, rfl, q2, hr2⟩ := hr.inv_cons
    obtain rfl := hr2.inv_nil
    obtain ⟨c', q3⟩ := pol_back (N' := Dm (smSt 1 [some (.fam (x.also P (plc (ρ j).blk (ρ j).off) m').F)] [])) (ρ' := fun _ => ρ 0) rfl fam_dm q2
    have q4 : VR (Dm (smSt 1 [some (.fam (x.also P (plc (ρ j).blk (ρ j).off) m').F)] [])) (fun _ => ρ 0) (PV.v ⟨P, m', c, e⟩) v1 := farV_vr q1 rfl fam_dm
    have key := rd14 (x := x.also P (plc (ρ j).blk (ρ j).off) m') (a := ⟨P, m', c, e⟩) (b := ⟨plc (ρ j).blk (ρ j).off, m', c', e'⟩) ⟨by show m' ≤ (if P = _ then m' else x.RN P); split; exact Nat.le_refl _; exact hP.1, hP.2⟩ ⟨by show m' ≤ (if _ = _ then m' else _); rw [if_pos rfl]; exact Nat.le_refl _, hP.2⟩ _ w [v1, v2] (own_hs hs h0 hj) (Go.Cln.VL.cons q4 (Go.Cln.VL.cons q3 Go.Cln.VL.nil))
    rw [show polE (x.also P (plc (ρ j).blk (ρ j).off) m') ⟨P, m', c, e⟩ ⟨plc (ρ j).blk (ρ j).off, m', c', e'⟩ = (e == e') by simp only [polE, rulesE, beq_self, allB_all fun i _ => also_rule x P (plc (ρ j).blk (ρ j).off) m' i, Bool.and_true]] at key
    exact key
  · rename_i j e' hb
    have eb := agg_eq hb
    subst eb
    split at h
    rotate_left
    · cases h
    rename_i hf14
    have hf14 : f = 14 := by simpa using hf14
    subst hf14
    cases h
    refine ⟨rfl, fun ⟨hG, hn⟩ ρ w args' hs hl => ?_⟩
    cases (show G = x.F from hG)
    subst hn
    obtain ⟨v1, r1, rfl, q1, hr⟩ := hl.inv_cons
    obtain ⟨v2, r2, rfl, q2, hr2⟩ := hr.inv_cons
    obtain rfl := hr2.inv_nil
    obtain ⟨c', q3⟩ := pol_back (N' := Dm (smSt 1 [some (.fam x.F)] [])) (ρ' := fun _ => ρ 0) rfl fam_dm q2
    have q4 : VR (Dm (smSt 1 [some (.fam x.F)] [])) (fun _ => ρ 0) (PV.v ⟨P, 0, c, e⟩) v1 := farV_vr q1 rfl fam_dm
    have key := rd14 (x := x) (a := ⟨P, 0, c, e⟩) (b := ⟨plc (ρ j).blk (ρ j).off, 0, c', e'⟩) ⟨Nat.zero_le _, Nat.zero_le _⟩ ⟨Nat.zero_le _, Nat.zero_le _⟩ _ w [v1, v2] (fam_hs hs h0 []) (Go.Cln.VL.cons q4 (Go.Cln.VL.cons q3 Go.Cln.VL.nil))
    rw [show polE x ⟨P, 0, c, e⟩ ⟨plc (ρ j).blk (ρ j).off, 0, c', e'⟩ = (e == e') by simp only [polE, rulesE, beq_self, allB, Bool.and_true]] at key
    exact key
  · cases h
noncomputable def KL (x : MX) : Given := { Given.readsP (Given.one 6 (.bool true)) (FLw x) with fits := true }
theorem KL_ok (x : MX) : GivenOk Tryz.prog (KL x) := frames_fits ((GivenOk.one (P := Tryz.prog) (f := 6) (v := .bool true) rfl works).readsP (FLw_ok x)) true
end
end ob
end Go.Proofs.YthpoeegoankpoaaGreat
