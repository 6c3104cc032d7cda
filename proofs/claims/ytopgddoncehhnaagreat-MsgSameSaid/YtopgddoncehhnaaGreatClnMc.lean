/- Read off the code by the clean reading. -/
import Derived.Test.YtopgddoncehhnaaGreatClnMb
set_option linter.unusedVariables false
set_option linter.unusedSimpArgs false
set_option linter.deprecated false
set_option maxRecDepth 100000
namespace Go.Proofs.YtopgddoncehhnaaGreat
open Go.ChangeShapes Go.WideShapes Go.ChangeAt Go.RowKit Go.Cln
namespace ob
set_option linter.unusedVariables false
noncomputable section
theorem rd18 {x : MX} {a b : OV} (hP : capOk x a.P a.n) (hQ : capOk x b.P b.n) : Rd Tryz.prog x.F 18 (a18 a b) (.bool (openE x a b)) := by
  obtain ⟨p1, p2, p3⟩ := hP
  obtain ⟨q1, q2, q3⟩ := hQ
  by_cases h1 : (a.asn == b.asn) = true
  rotate_left
  · have h1 : (a.asn == b.asn) = false := Bool.eq_false_iff.2 h1
    rw [show openE x a b = false by unfold openE; simp only [h1, Bool.false_and, Bool.true_and, Bool.and_false]]
    exact Rd.run pg (K1_ok x) (kN0_18 x a b) ⟨trivial, bne_t h1⟩ rfl
  by_cases h2 : (a.hold == b.hold) = true
  rotate_left
  · have h2 : (a.hold == b.hold) = false := Bool.eq_false_iff.2 h2
    rw [show openE x a b = false by unfold openE; simp only [h1, h2, Bool.false_and, Bool.true_and, Bool.and_false]]
    exact Rd.run pg (K1_ok x) (kN1_18 x a b) ⟨⟨trivial, bne_f h1⟩, bne_t h2⟩ rfl
  by_cases h3 : (a.id == b.id) = true
  rotate_left
  · have h3 : (a.id == b.id) = false := Bool.eq_false_iff.2 h3
    rw [show openE x a b = false by unfold openE; simp only [h1, h2, h3, Bool.false_and, Bool.true_and, Bool.and_false]]
    exact Rd.run pg (K1_ok x) (kN2_18 x a b) ⟨⟨⟨trivial, bne_f h1⟩, bne_f h2⟩, bne_t h3⟩ rfl
  by_cases h4 : (Nat.beq a.n b.n) = true
  rotate_left
  · have h4 : (Nat.beq a.n b.n) = false := Bool.eq_false_iff.2 h4
    rw [show openE x a b = false by unfold openE capsE; simp only [h1, h2, h3, h4, Bool.false_and, Bool.true_and]]
    exact Rd.run pg (K1_ok x) (kN3_18 x a b) ⟨⟨⟨⟨trivial, bne_f h1⟩, bne_f h2⟩, bne_f h3⟩, bne_t (by cases e : (nI a.n == nI b.n) with | false => rfl | true => exact absurd (show Nat.beq a.n b.n = true by rw [show a.n = b.n by have := eq_of_beq e; unfold nI at this; omega]; exact beq_self _) (by rw [h4]; decide))⟩ rfl
  rw [show openE x a b = allB (capE x a.P b.P) a.n by unfold openE capsE; simp only [h1, h2, h3, h4, Bool.true_and]]
  have hnm := Nat.eq_of_beq_eq_true h4
  refine cmp_rd (way := [2, 2, 3, 2, 0]) (pic := fun i v => s18 x a b i v) (e := capE x a.P b.P) (N := a.n) (v0 := VD18 vU) (s0 := z18 x a b) rfl fn18 (fun Q_ h => StepG.downs pg (K1_ok x) (kD18 x a b) ⟨⟨⟨⟨trivial, bne_f h1⟩, bne_f h2⟩, bne_f h3⟩, by rw [Nat.eq_of_beq_eq_true h4]; simp⟩ (tm18_dead (VD18_dead vU_dead) lvD18) (h18_ok x a b) rfl (okD18 x a b 0 vU) h) (up18 x a b) (fun i v hv hi he => ?_) (fun i v hv hi he => ?_) (fun v hv => ?_) (fun v hv => ?_) (VD18_dead vU_dead)
  · refine (StepG.stdT (s0 := z18 x a b) (rd := none) pg (K1_ok x) (kR18 x a b i v) ?_ (show 1 ≤ 3 by decide) (tm18_dead (VR18_dead hv) lvR18) (h18_ok x a b) rfl (okR18 x a b (i + 1) v)).mono ?_
    · unfold capE at he
      rw [Bool.and_eq_true] at he
      obtain ⟨k1, k2⟩ := he
      have k1 := bne_f k1
      rw [ix2_eq] at k2
      have s1 : x.CM a.P (ix3 i) = 0 ∨ 0 + x.CM a.P (ix3 i) ≤ (x.D (x.CQ a.P (ix3 i))).length := by rw [ix3_eq]; have := (p3 i hi).1; omega
      have s2 : x.CM b.P (ix3 i) = 0 ∨ 0 + x.CM b.P (ix3 i) ≤ (x.D (x.CQ b.P (ix3 i))).length := by rw [ix3_eq]; have := (q3 i (by omega)).1; omega
      exact ⟨⟨⟨⟨⟨⟨⟨⟨⟨⟨⟨⟨⟨⟨⟨⟨⟨⟨⟨⟨⟨⟨⟨⟨⟨⟨⟨⟨⟨trivial, decide_eq_true (by unfold nI; omega)⟩, by unfold nI; omega⟩, ⟨by omega, by omega⟩⟩, by unfold nI; omega⟩, ⟨by omega, by omega⟩⟩, k1⟩, k1⟩, k1⟩, k1⟩, by unfold nI; omega⟩, k1⟩, k1⟩, ⟨by omega, by omega⟩⟩, k1⟩, s1⟩, k1⟩, k1⟩, k1⟩, k1⟩, by unfold nI; omega⟩, k1⟩, k1⟩, ⟨by omega, by omega⟩⟩, k1⟩, s2⟩, k1⟩, k1⟩, by rw [ix3_eq, k2]; rfl⟩, by rw [IntKind.wrap_i64]; unfold nI; omega⟩
    · rintro ex s_ ⟨rfl, rfl⟩
      exact ⟨rfl, _, VR18_dead hv, rfl⟩
  · unfold capE at he
    by_cases k1 : (x.CK a.P (ix2 i) == x.CK b.P (ix2 i)) = true
    · rw [k1, Bool.true_and, ix2_eq] at he
      have k1 := bne_f k1
      have s1 : x.CM a.P (ix3 i) = 0 ∨ 0 + x.CM a.P (ix3 i) ≤ (x.D (x.CQ a.P (ix3 i))).length := by rw [ix3_eq]; have := (p3 i hi).1; omega
      have s2 : x.CM b.P (ix3 i) = 0 ∨ 0 + x.CM b.P (ix3 i) ≤ (x.D (x.CQ b.P (ix3 i))).length := by rw [ix3_eq]; have := (q3 i (by omega)).1; omega
      exact StepG.ranV (s0 := z18 x a b) (rd := none) pg (K1_ok x) (kF1_18 x a b i v) ⟨⟨⟨⟨⟨⟨⟨⟨⟨⟨⟨⟨⟨⟨⟨⟨⟨⟨⟨⟨⟨⟨⟨⟨⟨⟨⟨⟨trivial, decide_eq_true (by unfold nI; omega)⟩, by unfold nI; omega⟩, ⟨by omega, by omega⟩⟩, by unfold nI; omega⟩, ⟨by omega, by omega⟩⟩, k1⟩, k1⟩, k1⟩, k1⟩, by unfold nI; omega⟩, k1⟩, k1⟩, ⟨by omega, by omega⟩⟩, k1⟩, s1⟩, k1⟩, k1⟩, k1⟩, k1⟩, by unfold nI; omega⟩, k1⟩, k1⟩, ⟨by omega, by omega⟩⟩, k1⟩, s2⟩, k1⟩, k1⟩, by rw [ix3_eq, he]; rfl⟩ (show 1 ≤ 3 by decide)
    · have k1 : (x.CK a.P (ix2 i) == x.CK b.P (ix2 i)) = false := by simpa using k1
      have k1 := bne_t k1
      exact StepG.ranV (s0 := z18 x a b) (rd := none) pg (K1_ok x) (kF0_18 x a b i v) ⟨⟨⟨⟨⟨⟨⟨⟨⟨⟨⟨⟨⟨⟨⟨⟨⟨⟨⟨⟨⟨trivial, decide_eq_true (by unfold nI; omega)⟩, by unfold nI; omega⟩, ⟨by omega, by omega⟩⟩, by unfold nI; omega⟩, ⟨by omega, by omega⟩⟩, k1⟩, k1⟩, k1⟩, k1⟩, k1⟩, k1⟩, k1⟩, k1⟩, k1⟩, k1⟩, k1⟩, k1⟩, k1⟩, k1⟩, k1⟩, k1⟩ (show 1 ≤ 3 by decide)
  · refine (StepG.stdT (s0 := z18 x a b) (rd := none) pg (K1_ok x) (kX18 x a b a.n v) ⟨trivial, decide_eq_false (by omega)⟩ (show 1 ≤ 3 by decide) (tm18_dead (VX18_dead hv) lvX18) (h18_ok x a b) rfl (okX18 x a b a.n v)).mono ?_
    rintro ex s_ ⟨rfl, rfl⟩
    exact ⟨rfl, _, VX18_dead hv, rfl⟩
  · exact StepG.ranV pg (K1_ok x) (kE18 x a b a.n v) trivial (show 1 ≤ 3 by decide)
theorem rd34 {x : MX} {a b : AV} (hP : legOk x a.P a.n) (hQ : legOk x b.P b.n) (hT : numOk x a.Q a.m) (hU : numOk x b.Q b.m) : Rd Tryz.prog x.F 34 (a34 a b) (.bool (attrsE x a b)) := by
  obtain ⟨p1, p2, p3⟩ := hP
  obtain ⟨q1, q2, q3⟩ := hQ
  by_cases h1 : (a.o == b.o) = true
  rotate_left
  · have h1 : (a.o == b.o) = false := Bool.eq_false_iff.2 h1
    rw [show attrsE x a b = false by unfold attrsE; simp only [h1, Bool.false_and, Bool.true_and, Bool.and_false]]
    exact Rd.run pg (K1_ok x) (kN0_34 x a b) ⟨trivial, bne_t h1⟩ rfl
  by_cases h2 : (a.nx == b.nx) = true
  rotate_left
  · have h2 : (a.nx == b.nx) = false := Bool.eq_false_iff.2 h2
    rw [show attrsE x a b = false by unfold attrsE; simp only [h1, h2, Bool.false_and, Bool.true_and, Bool.and_false]]
    exact Rd.run pg (K1_ok x) (kN1_34 x a b) ⟨⟨trivial, bne_f h1⟩, bne_t h2⟩ rfl
  by_cases h3 : (a.hm == b.hm) = true
  rotate_left
  · have h3 : (a.hm == b.hm) = false := Bool.eq_false_iff.2 h3
    rw [show attrsE x a b = false by unfold attrsE; simp only [h1, h2, h3, Bool.false_and, Bool.true_and, Bool.and_false]]
    exact Rd.run pg (K1_ok x) (kN2_34 x a b) ⟨⟨⟨trivial, bne_f h1⟩, bne_f h2⟩, bne_t h3⟩ rfl
  by_cases h4 : (a.md == b.md) = true
  rotate_left
  · have h4 : (a.md == b.md) = false := Bool.eq_false_iff.2 h4
    rw [show attrsE x a b = false by unfold attrsE; simp only [h1, h2, h3, h4, Bool.false_and, Bool.true_and, Bool.and_false]]
    exact Rd.run pg (K1_ok x) (kN3_34 x a b) ⟨⟨⟨⟨trivial, bne_f h1⟩, bne_f h2⟩, bne_f h3⟩, bne_t h4⟩ rfl
  by_cases h5 : (a.hp == b.hp) = true
  rotate_left
  · have h5 : (a.hp == b.hp) = false := Bool.eq_false_iff.2 h5
    rw [show attrsE x a b = false by unfold attrsE; simp only [h1, h2, h3, h4, h5, Bool.false_and, Bool.true_and, Bool.and_false]]
    exact Rd.run pg (K1_ok x) (kN4_34 x a b) ⟨⟨⟨⟨⟨trivial, bne_f h1⟩, bne_f h2⟩, bne_f h3⟩, bne_f h4⟩, bne_t h5⟩ rfl
  by_cases h6 : (a.pf == b.pf) = true
  rotate_left
  · have h6 : (a.pf == b.pf) = false := Bool.eq_false_iff.2 h6
    rw [show attrsE x a b = false by unfold attrsE; simp only [h1, h2, h3, h4, h5, h6, Bool.false_and, Bool.true_and, Bool.and_false]]
    exact Rd.run pg (K1_ok x) (kN5_34 x a b) ⟨⟨⟨⟨⟨⟨trivial, bne_f h1⟩, bne_f h2⟩, bne_f h3⟩, bne_f h4⟩, bne_f h5⟩, bne_t h6⟩ rfl
  by_cases h7 : (Nat.beq a.n b.n) = true
  rotate_left
  · have h7 : (Nat.beq a.n b.n) = false := Bool.eq_false_iff.2 h7
    rw [show attrsE x a b = false by unfold attrsE legsE; simp only [h1, h2, h3, h4, h5, h6, h7, Bool.false_and, Bool.true_and]]
    exact Rd.run pg (K1_ok x) (kN6_34 x a b) ⟨⟨⟨⟨⟨⟨⟨trivial, bne_f h1⟩, bne_f h2⟩, bne_f h3⟩, bne_f h4⟩, bne_f h5⟩, bne_f h6⟩, bne_t (by cases e : (nI a.n == nI b.n) with | false => rfl | true => exact absurd (show Nat.beq a.n b.n = true by rw [show a.n = b.n by have := eq_of_beq e; unfold nI at this; omega]; exact beq_self _) (by rw [h7]; decide))⟩ rfl
  by_cases h8 : (rowE x a.Q a.m b.Q b.m) = true
  rotate_left
  · have h8 : (rowE x a.Q a.m b.Q b.m) = false := Bool.eq_false_iff.2 h8
    rw [show attrsE x a b = false by unfold attrsE; simp only [h1, h2, h3, h4, h5, h6, h8, Bool.and_false, Bool.true_and]]
    exact Rd.run pg (K1_ok x) (kN7_34 x a b) ⟨⟨⟨⟨⟨⟨⟨⟨⟨trivial, bne_f h1⟩, bne_f h2⟩, bne_f h3⟩, bne_f h4⟩, bne_f h5⟩, bne_f h6⟩, by rw [Nat.eq_of_beq_eq_true h7]; simp⟩, ⟨rfl, hT, hU⟩⟩, by rw [h8]; rfl⟩ rfl
  rw [show attrsE x a b = allB (legE x a.P b.P) a.n by unfold attrsE legsE; simp only [h1, h2, h3, h4, h5, h6, h7, h8, Bool.true_and, Bool.and_true]]
  have hnm := Nat.eq_of_beq_eq_true h7
  refine cmp_rd (way := [2, 2, 3, 2, 0]) (pic := fun i v => s34 x a b i v) (e := legE x a.P b.P) (N := a.n) (v0 := VD34 vU) (s0 := z34 x a b) rfl fn34 (fun Q_ h => StepG.downs pg (K1_ok x) (kD34 x a b) ⟨⟨⟨⟨⟨⟨⟨⟨⟨trivial, bne_f h1⟩, bne_f h2⟩, bne_f h3⟩, bne_f h4⟩, bne_f h5⟩, bne_f h6⟩, by rw [Nat.eq_of_beq_eq_true h7]; simp⟩, ⟨rfl, hT, hU⟩⟩, by rw [h8]; rfl⟩ (tm34_dead (VD34_dead vU_dead) lvD34) (h34_ok x a b) rfl (okD34 x a b 0 vU) h) (up34 x a b) (fun i v hv hi he => ?_) (fun i v hv hi he => ?_) (fun v hv => ?_) (fun v hv => ?_) (VD34_dead vU_dead)
  · refine (StepG.stdT (s0 := z34 x a b) (rd := none) pg (K1_ok x) (kR34 x a b i v) ?_ (show 1 ≤ 3 by decide) (tm34_dead (VR34_dead hv) lvR34) (h34_ok x a b) rfl (okR34 x a b (i + 1) v)).mono ?_
    · unfold legE at he
      rw [Bool.and_eq_true] at he
      obtain ⟨k1, k2⟩ := he
      have k1 := bne_f k1
      rw [ix2_eq] at k2
      have s1 : numOk x (x.LQ a.P (ix3 i)) (x.LM a.P (ix3 i)) := by rw [ix3_eq]; exact p3 i hi
      have s2 : numOk x (x.LQ b.P (ix3 i)) (x.LM b.P (ix3 i)) := by rw [ix3_eq]; exact q3 i (by omega)
      exact ⟨⟨⟨⟨⟨⟨⟨⟨⟨⟨⟨⟨⟨⟨⟨⟨⟨⟨⟨⟨⟨⟨⟨⟨⟨⟨⟨trivial, decide_eq_true (by unfold nI; omega)⟩, by unfold nI; omega⟩, ⟨by omega, by omega⟩⟩, by unfold nI; omega⟩, ⟨by omega, by omega⟩⟩, k1⟩, k1⟩, k1⟩, k1⟩, by unfold nI; omega⟩, k1⟩, k1⟩, ⟨by omega, by omega⟩⟩, k1⟩, k1⟩, k1⟩, k1⟩, by unfold nI; omega⟩, k1⟩, k1⟩, ⟨by omega, by omega⟩⟩, k1⟩, ⟨rfl, s1, s2⟩⟩, k1⟩, k1⟩, by rw [ix3_eq, k2]; rfl⟩, by rw [IntKind.wrap_i64]; unfold nI; omega⟩
    · rintro ex s_ ⟨rfl, rfl⟩
      exact ⟨rfl, _, VR34_dead hv, rfl⟩
  · unfold legE at he
    by_cases k1 : (x.LS a.P (ix2 i) == x.LS b.P (ix2 i)) = true
    · rw [k1, Bool.true_and, ix2_eq] at he
      have k1 := bne_f k1
      have s1 : numOk x (x.LQ a.P (ix3 i)) (x.LM a.P (ix3 i)) := by rw [ix3_eq]; exact p3 i hi
      have s2 : numOk x (x.LQ b.P (ix3 i)) (x.LM b.P (ix3 i)) := by rw [ix3_eq]; exact q3 i (by omega)
      exact StepG.ranV (s0 := z34 x a b) (rd := none) pg (K1_ok x) (kF1_34 x a b i v) ⟨⟨⟨⟨⟨⟨⟨⟨⟨⟨⟨⟨⟨⟨⟨⟨⟨⟨⟨⟨⟨⟨⟨⟨⟨⟨trivial, decide_eq_true (by unfold nI; omega)⟩, by unfold nI; omega⟩, ⟨by omega, by omega⟩⟩, by unfold nI; omega⟩, ⟨by omega, by omega⟩⟩, k1⟩, k1⟩, k1⟩, k1⟩, by unfold nI; omega⟩, k1⟩, k1⟩, ⟨by omega, by omega⟩⟩, k1⟩, k1⟩, k1⟩, k1⟩, by unfold nI; omega⟩, k1⟩, k1⟩, ⟨by omega, by omega⟩⟩, k1⟩, ⟨rfl, s1, s2⟩⟩, k1⟩, k1⟩, by rw [ix3_eq, he]; rfl⟩ (show 1 ≤ 3 by decide)
    · have k1 : (x.LS a.P (ix2 i) == x.LS b.P (ix2 i)) = false := by simpa using k1
      have k1 := bne_t k1
      exact StepG.ranV (s0 := z34 x a b) (rd := none) pg (K1_ok x) (kF0_34 x a b i v) ⟨⟨⟨⟨⟨⟨⟨⟨⟨⟨⟨⟨⟨⟨⟨⟨⟨⟨⟨⟨trivial, decide_eq_true (by unfold nI; omega)⟩, by unfold nI; omega⟩, ⟨by omega, by omega⟩⟩, by unfold nI; omega⟩, ⟨by omega, by omega⟩⟩, k1⟩, k1⟩, k1⟩, k1⟩, k1⟩, k1⟩, k1⟩, k1⟩, k1⟩, k1⟩, k1⟩, k1⟩, k1⟩, k1⟩, k1⟩ (show 1 ≤ 3 by decide)
  · refine (StepG.stdT (s0 := z34 x a b) (rd := none) pg (K1_ok x) (kX34 x a b a.n v) ⟨trivial, decide_eq_false (by omega)⟩ (show 1 ≤ 3 by decide) (tm34_dead (VX34_dead hv) lvX34) (h34_ok x a b) rfl (okX34 x a b a.n v)).mono ?_
    rintro ex s_ ⟨rfl, rfl⟩
    exact ⟨rfl, _, VX34_dead hv, rfl⟩
  · exact StepG.ranV pg (K1_ok x) (kE34 x a b a.n v) trivial (show 1 ≤ 3 by decide)
end
end ob
end Go.Proofs.YtopgddoncehhnaaGreat
namespace Go.Proofs.YtopgddoncehhnaaGreat
open Go.ChangeShapes Go.WideShapes Go.ChangeAt Go.RowKit Go.Cln
namespace ob
set_option linter.unusedVariables false
noncomputable section
def T3 (x : MX) (f : FuncId) (args : List Value) : Option (Value × Prop) :=
  if f == 30 then (match args with
    | [.slice (some ⟨P, 0, some 1003⟩) n c, .slice (some ⟨Q, 0, some 1003⟩) m d, .func (.func 29) u w] => (match u.toList, w.toList with
      | [], [] => some (.bool (capsE x P n Q m), capOk x P n ∧ capOk x Q m)
      | _, _ => none)
    | _ => none)
  else if f == 78 then (match args with
    | [.slice (some ⟨P, 0, some 1002⟩) n c, .slice (some ⟨Q, 0, some 1002⟩) m d, .func (.func 76) u w] => (match u.toList, w.toList with
      | [], [] => some (.bool (legsE x P n Q m), legOk x P n ∧ legOk x Q m)
      | _, _ => none)
    | _ => none)
  else if f == 18 then (match args with
    | [.agg a, .agg b] => (match a.toList, b.toList with
      | [.int .u32 a1, .int .u16 a2, .int .u32 a3, .slice (some ⟨P, 0, some 1003⟩) n c], [.int .u32 b1, .int .u16 b2, .int .u32 b3, .slice (some ⟨Q, 0, some 1003⟩) m d] => some (.bool (openE x ⟨a1, a2, a3, P, n, c⟩ ⟨b1, b2, b3, Q, m, d⟩), capOk x P n ∧ capOk x Q m)
      | _, _ => none)
    | _ => none)
  else if f == 34 then (match args with
    | [.agg a, .agg b] => (match a.toList, b.toList with
      | [.int .u8 a1, .slice (some ⟨P, 0, some 1002⟩) n c, .int .u32 a2, .bool a3, .int .u32 a4, .bool a5, .int .u32 a6, .slice (some ⟨R, 0, some 1001⟩) k e], [.int .u8 b1, .slice (some ⟨Q, 0, some 1002⟩) m d, .int .u32 b2, .bool b3, .int .u32 b4, .bool b5, .int .u32 b6, .slice (some ⟨S, 0, some 1001⟩) l g] =>
        some (.bool (attrsE x ⟨a1, P, n, c, a2, a3, a4, a5, a6, R, k, e⟩ ⟨b1, Q, m, d, b2, b3, b4, b5, b6, S, l, g⟩), legOk x P n ∧ legOk x Q m ∧ numOk x R k ∧ numOk x S l)
      | _, _ => none)
    | _ => none)
  else T1 x f args
theorem T3_ok (x : MX) (f : FuncId) (args : List Value) (r : Value × Prop) (h : T3 x f args = some r) : flat r.1 = true ∧ args.all farV = true ∧ (r.2 → Rd Tryz.prog x.F f args r.1) := by
  unfold T3 at h
  split at h
  · rename_i hf
    have hf : f = 30 := by simpa using hf
    subst hf
    split at h
    · split at h
      · rename_i P n c Q m d u w hu hw
        cases h
        have eu := agg_eq hu
        have ew := agg_eq hw
        subst eu
        subst ew
        exact ⟨rfl, rfl, fun hp => rd30 hp.1 hp.2⟩
      · cases h
    · cases h
  · split at h
    · rename_i _ hf
      have hf : f = 78 := by simpa using hf
      subst hf
      split at h
      · split at h
        · rename_i P n c Q m d u w hu hw
          cases h
          have eu := agg_eq hu
          have ew := agg_eq hw
          subst eu
          subst ew
          exact ⟨rfl, rfl, fun hp => rd78 hp.1 hp.2⟩
        · cases h
      · cases h
    · split at h
      · rename_i _ _ hf
        have hf : f = 18 := by simpa using hf
        subst hf
        split at h
        · split at h
          · rename_i a b a1 a2 a3 P n c b1 b2 b3 Q m d ha hb
            cases h
            have ea := agg_eq ha
            have eb := agg_eq hb
            subst ea
            subst eb
            exact ⟨rfl, rfl, fun hp => rd18 (a := ⟨a1, a2, a3, P, n, c⟩) (b := ⟨b1, b2, b3, Q, m, d⟩) hp.1 hp.2⟩
          · cases h
        · cases h
      · split at h
        · rename_i _ _ _ hf
          have hf : f = 34 := by simpa using hf
          subst hf
          split at h
          · split at h
            · rename_i a b a1 P n c a2 a3 a4 a5 a6 R k e b1 Q m d b2 b3 b4 b5 b6 S l g ha hb
              cases h
              have ea := agg_eq ha
              have eb := agg_eq hb
              subst ea
              subst eb
              exact ⟨rfl, rfl, fun hp => rd34 (a := ⟨a1, P, n, c, a2, a3, a4, a5, a6, R, k, e⟩) (b := ⟨b1, Q, m, d, b2, b3, b4, b5, b6, S, l, g⟩) hp.1 hp.2.1 hp.2.2.1 hp.2.2.2⟩
            · cases h
          · cases h
        · exact T1_ok x f args r h
def K3 (x : MX) : Given := { Given.rds Given.nothing x.F (T3 x) with fits := true }
theorem K3_ok (x : MX) : GivenOk Tryz.prog (K3 x) := frames_fits ((GivenOk.nothing _).rds (T3_ok x)) true
def call_ (K : Given) (x : MX) (f : FuncId) (args : List Value) (o : List (Option Bool)) : Option (Value × St) := (mk Tryz.prog K 300).call f args (smSt 1 [some (.fam x.F)] o)
end
end ob
end Go.Proofs.YtopgddoncehhnaaGreat
namespace Go.Proofs.YtopgddoncehhnaaGreat
open Go.ChangeShapes Go.WideShapes Go.ChangeAt Go.RowKit Go.Cln
namespace ob
set_option linter.unusedVariables false
noncomputable section
def msgOk (x : MX) (a : MV) : Prop := capOk x a.op.P a.op.n ∧ preOk x a.gP a.gn ∧ preOk x a.nP a.nn ∧ legOk x a.at_.P a.at_.n ∧ numOk x a.at_.Q a.at_.m ∧ bytOk x a.dP a.dn
theorem c6_0 (x : MX) (a b : MV) : (call_ (K3 x) x 6 [a.v, b.v] [some false]).map (fun r => (r.1, r.2.obl)) = some (.bool false, (True ∧ (a.k == b.k) = false)) := by kernel_rfl
theorem c6_1 (x : MX) (a b : MV) : (call_ (K3 x) x 6 [a.v, b.v] [some true, none, none, none, none, some false]).map (fun r => (r.1, r.2.obl)) = some (.bool false, ((True ∧ (a.k == b.k) = true) ∧ (a.op.asn == b.op.asn) = false)) := by kernel_rfl
theorem c6_2 (x : MX) (a b : MV) : (call_ (K3 x) x 6 [a.v, b.v] [some true, none, none, none, none, some true, none, none, none, none, none, some false]).map (fun r => (r.1, r.2.obl)) = some (.bool false, (((True ∧ (a.k == b.k) = true) ∧ (a.op.asn == b.op.asn) = true) ∧ (a.op.hold == b.op.hold) = false)) := by kernel_rfl
theorem c6_3 (x : MX) (a b : MV) : (call_ (K3 x) x 6 [a.v, b.v] [some true, none, none, none, none, some true, none, none, none, none, none, some true, none, none, none, none, none, some false]).map (fun r => (r.1, r.2.obl)) = some (.bool false, ((((True ∧ (a.k == b.k) = true) ∧ (a.op.asn == b.op.asn) = true) ∧ (a.op.hold == b.op.hold) = true) ∧ (a.op.id == b.op.id) = false)) := by kernel_rfl
theorem c6_4 (x : MX) (a b : MV) : (call_ (K3 x) x 6 [a.v, b.v] [some true, none, none, none, none, some true, none, none, none, none, none, some true, none, none, none, none, none, some true, none, none, none, none, none, none, none, some false]).map (fun r => (r.1, r.2.obl)) = some (.bool false, ((((((True ∧ (a.k == b.k) = true) ∧ (a.op.asn == b.op.asn) = true) ∧ (a.op.hold == b.op.hold) = true) ∧ (a.op.id == b.op.id) = true) ∧ (x.F = x.F ∧ capOk x a.op.P a.op.n ∧ capOk x b.op.P b.op.n)) ∧ capsE x a.op.P a.op.n b.op.P b.op.n = false)) := by kernel_rfl
theorem c6_5 (x : MX) (a b : MV) : (call_ (K3 x) x 6 [a.v, b.v] [some true, none, none, none, none, some true, none, none, none, none, none, some true, none, none, none, none, none, some true, none, none, none, none, none, none, none, some true, none, none, none, none, some false]).map (fun r => (r.1, r.2.obl)) = some (.bool false, ((((((((True ∧ (a.k == b.k) = true) ∧ (a.op.asn == b.op.asn) = true) ∧ (a.op.hold == b.op.hold) = true) ∧ (a.op.id == b.op.id) = true) ∧ (x.F = x.F ∧ capOk x a.op.P a.op.n ∧ capOk x b.op.P b.op.n)) ∧ capsE x a.op.P a.op.n b.op.P b.op.n = true) ∧ (x.F = x.F ∧ preOk x a.gP a.gn ∧ preOk x b.gP b.gn)) ∧ presE x a.gP a.gn b.gP b.gn = false)) := by kernel_rfl
theorem c6_6 (x : MX) (a b : MV) : (call_ (K3 x) x 6 [a.v, b.v] [some true, none, none, none, none, some true, none, none, none, none, none, some true, none, none, none, none, none, some true, none, none, none, none, none, none, none, some true, none, none, none, none, some true, none, none, none, none, none, some false]).map (fun r => (r.1, r.2.obl)) = some (.bool false, ((((((((((True ∧ (a.k == b.k) = true) ∧ (a.op.asn == b.op.asn) = true) ∧ (a.op.hold == b.op.hold) = true) ∧ (a.op.id == b.op.id) = true) ∧ (x.F = x.F ∧ capOk x a.op.P a.op.n ∧ capOk x b.op.P b.op.n)) ∧ capsE x a.op.P a.op.n b.op.P b.op.n = true) ∧ (x.F = x.F ∧ preOk x a.gP a.gn ∧ preOk x b.gP b.gn)) ∧ presE x a.gP a.gn b.gP b.gn = true) ∧ (x.F = x.F ∧ preOk x a.nP a.nn ∧ preOk x b.nP b.nn)) ∧ presE x a.nP a.nn b.nP b.nn = false)) := by kernel_rfl
theorem c6_7 (x : MX) (a b : MV) : (call_ (K3 x) x 6 [a.v, b.v] [some true, none, none, none, none, some true, none, none, none, none, none, some true, none, none, none, none, none, some true, none, none, none, none, none, none, none, some true, none, none, none, none, some true, none, none, none, none, none, some true, none, none, none, none, some false]).map (fun r => (r.1, r.2.obl)) = some (.bool false, (((((((((((True ∧ (a.k == b.k) = true) ∧ (a.op.asn == b.op.asn) = true) ∧ (a.op.hold == b.op.hold) = true) ∧ (a.op.id == b.op.id) = true) ∧ (x.F = x.F ∧ capOk x a.op.P a.op.n ∧ capOk x b.op.P b.op.n)) ∧ capsE x a.op.P a.op.n b.op.P b.op.n = true) ∧ (x.F = x.F ∧ preOk x a.gP a.gn ∧ preOk x b.gP b.gn)) ∧ presE x a.gP a.gn b.gP b.gn = true) ∧ (x.F = x.F ∧ preOk x a.nP a.nn ∧ preOk x b.nP b.nn)) ∧ presE x a.nP a.nn b.nP b.nn = true) ∧ (a.at_.o == b.at_.o) = false)) := by kernel_rfl
theorem c6_8 (x : MX) (a b : MV) : (call_ (K3 x) x 6 [a.v, b.v] [some true, none, none, none, none, some true, none, none, none, none, none, some true, none, none, none, none, none, some true, none, none, none, none, none, none, none, some true, none, none, none, none, some true, none, none, none, none, none, some true, none, none, none, none, some true, none, none, none, none, none, some false]).map (fun r => (r.1, r.2.obl)) = some (.bool false, ((((((((((((True ∧ (a.k == b.k) = true) ∧ (a.op.asn == b.op.asn) = true) ∧ (a.op.hold == b.op.hold) = true) ∧ (a.op.id == b.op.id) = true) ∧ (x.F = x.F ∧ capOk x a.op.P a.op.n ∧ capOk x b.op.P b.op.n)) ∧ capsE x a.op.P a.op.n b.op.P b.op.n = true) ∧ (x.F = x.F ∧ preOk x a.gP a.gn ∧ preOk x b.gP b.gn)) ∧ presE x a.gP a.gn b.gP b.gn = true) ∧ (x.F = x.F ∧ preOk x a.nP a.nn ∧ preOk x b.nP b.nn)) ∧ presE x a.nP a.nn b.nP b.nn = true) ∧ (a.at_.o == b.at_.o) = true) ∧ (a.at_.nx == b.at_.nx) = false)) := by kernel_rfl
theorem c6_9 (x : MX) (a b : MV) : (call_ (K3 x) x 6 [a.v, b.v] [some true, none, none, none, none, some true, none, none, none, none, none, some true, none, none, none, none, none, some true, none, none, none, none, none, none, none, some true, none, none, none, none, some true, none, none, none, none, none, some true, none, none, none, none, some true, none, none, none, none, none, some true, none, none, none, none, none, some false]).map (fun r => (r.1, r.2.obl)) = some (.bool false, (((((((((((((True ∧ (a.k == b.k) = true) ∧ (a.op.asn == b.op.asn) = true) ∧ (a.op.hold == b.op.hold) = true) ∧ (a.op.id == b.op.id) = true) ∧ (x.F = x.F ∧ capOk x a.op.P a.op.n ∧ capOk x b.op.P b.op.n)) ∧ capsE x a.op.P a.op.n b.op.P b.op.n = true) ∧ (x.F = x.F ∧ preOk x a.gP a.gn ∧ preOk x b.gP b.gn)) ∧ presE x a.gP a.gn b.gP b.gn = true) ∧ (x.F = x.F ∧ preOk x a.nP a.nn ∧ preOk x b.nP b.nn)) ∧ presE x a.nP a.nn b.nP b.nn = true) ∧ (a.at_.o == b.at_.o) = true) ∧ (a.at_.nx == b.at_.nx) = true) ∧ (a.at_.hm == b.at_.hm) = false)) := by kernel_rfl
theorem c6_10 (x : MX) (a b : MV) : (call_ (K3 x) x 6 [a.v, b.v] [some true, none, none, none, none, some true, none, none, none, none, none, some true, none, none, none, none, none, some true, none, none, none, none, none, none, none, some true, none, none, none, none, some true, none, none, none, none, none, some true, none, none, none, none, some true, none, none, none, none, none, some true, none, none, none, none, none, some true, none, none, none, none, none, some false]).map (fun r => (r.1, r.2.obl)) = some (.bool false, ((((((((((((((True ∧ (a.k == b.k) = true) ∧ (a.op.asn == b.op.asn) = true) ∧ (a.op.hold == b.op.hold) = true) ∧ (a.op.id == b.op.id) = true) ∧ (x.F = x.F ∧ capOk x a.op.P a.op.n ∧ capOk x b.op.P b.op.n)) ∧ capsE x a.op.P a.op.n b.op.P b.op.n = true) ∧ (x.F = x.F ∧ preOk x a.gP a.gn ∧ preOk x b.gP b.gn)) ∧ presE x a.gP a.gn b.gP b.gn = true) ∧ (x.F = x.F ∧ preOk x a.nP a.nn ∧ preOk x b.nP b.nn)) ∧ presE x a.nP a.nn b.nP b.nn = true) ∧ (a.at_.o == b.at_.o) = true) ∧ (a.at_.nx == b.at_.nx) = true) ∧ (a.at_.hm == b.at_.hm) = true) ∧ (a.at_.md == b.at_.md) = false)) := by kernel_rfl
theorem c6_11 (x : MX) (a b : MV) : (call_ (K3 x) x 6 [a.v, b.v] [some true, none, none, none, none, some true, none, none, none, none, none, some true, none, none, none, none, none, some true, none, none, none, none, none, none, none, some true, none, none, none, none, some true, none, none, none, none, none, some true, none, none, none, none, some true, none, none, none, none, none, some true, none, none, none, none, none, some true, none, none, none, none, none, some true, none, none, none, none, none, some false]).map (fun r => (r.1, r.2.obl)) = some (.bool false, (((((((((((((((True ∧ (a.k == b.k) = true) ∧ (a.op.asn == b.op.asn) = true) ∧ (a.op.hold == b.op.hold) = true) ∧ (a.op.id == b.op.id) = true) ∧ (x.F = x.F ∧ capOk x a.op.P a.op.n ∧ capOk x b.op.P b.op.n)) ∧ capsE x a.op.P a.op.n b.op.P b.op.n = true) ∧ (x.F = x.F ∧ preOk x a.gP a.gn ∧ preOk x b.gP b.gn)) ∧ presE x a.gP a.gn b.gP b.gn = true) ∧ (x.F = x.F ∧ preOk x a.nP a.nn ∧ preOk x b.nP b.nn)) ∧ presE x a.nP a.nn b.nP b.nn = true) ∧ (a.at_.o == b.at_.o) = true) ∧ (a.at_.nx == b.at_.nx) = true) ∧ (a.at_.hm == b.at_.hm) = true) ∧ (a.at_.md == b.at_.md) = true) ∧ (a.at_.hp == b.at_.hp) = false)) := by kernel_rfl
theorem c6_12 (x : MX) (a b : MV) : (call_ (K3 x) x 6 [a.v, b.v] [some true, none, none, none, none, some true, none, none, none, none, none, some true, none, none, none, none, none, some true, none, none, none, none, none, none, none, some true, none, none, none, none, some true, none, none, none, none, none, some true, none, none, none, none, some true, none, none, none, none, none, some true, none, none, none, none, none, some true, none, none, none, none, none, some true, none, none, none, none, none, some true, none, none, none, none, none, some false]).map (fun r => (r.1, r.2.obl)) = some (.bool false, ((((((((((((((((True ∧ (a.k == b.k) = true) ∧ (a.op.asn == b.op.asn) = true) ∧ (a.op.hold == b.op.hold) = true) ∧ (a.op.id == b.op.id) = true) ∧ (x.F = x.F ∧ capOk x a.op.P a.op.n ∧ capOk x b.op.P b.op.n)) ∧ capsE x a.op.P a.op.n b.op.P b.op.n = true) ∧ (x.F = x.F ∧ preOk x a.gP a.gn ∧ preOk x b.gP b.gn)) ∧ presE x a.gP a.gn b.gP b.gn = true) ∧ (x.F = x.F ∧ preOk x a.nP a.nn ∧ preOk x b.nP b.nn)) ∧ presE x a.nP a.nn b.nP b.nn = true) ∧ (a.at_.o == b.at_.o) = true) ∧ (a.at_.nx == b.at_.nx) = true) ∧ (a.at_.hm == b.at_.hm) = true) ∧ (a.at_.md == b.at_.md) = true) ∧ (a.at_.hp == b.at_.hp) = true) ∧ (a.at_.pf == b.at_.pf) = false)) := by kernel_rfl
theorem c6_13 (x : MX) (a b : MV) : (call_ (K3 x) x 6 [a.v, b.v] [some true, none, none, none, none, some true, none, none, none, none, none, some true, none, none, none, none, none, some true, none, none, none, none, none, none, none, some true, none, none, none, none, some true, none, none, none, none, none, some true, none, none, none, none, some true, none, none, none, none, none, some true, none, none, none, none, none, some true, none, none, none, none, none, some true, none, none, none, none, none, some true, none, none, none, none, none, some true, none, none, none, none, none, none, some false]).map (fun r => (r.1, r.2.obl)) = some (.bool false, ((((((((((((((((((True ∧ (a.k == b.k) = true) ∧ (a.op.asn == b.op.asn) = true) ∧ (a.op.hold == b.op.hold) = true) ∧ (a.op.id == b.op.id) = true) ∧ (x.F = x.F ∧ capOk x a.op.P a.op.n ∧ capOk x b.op.P b.op.n)) ∧ capsE x a.op.P a.op.n b.op.P b.op.n = true) ∧ (x.F = x.F ∧ preOk x a.gP a.gn ∧ preOk x b.gP b.gn)) ∧ presE x a.gP a.gn b.gP b.gn = true) ∧ (x.F = x.F ∧ preOk x a.nP a.nn ∧ preOk x b.nP b.nn)) ∧ presE x a.nP a.nn b.nP b.nn = true) ∧ (a.at_.o == b.at_.o) = true) ∧ (a.at_.nx == b.at_.nx) = true) ∧ (a.at_.hm == b.at_.hm) = true) ∧ (a.at_.md == b.at_.md) = true) ∧ (a.at_.hp == b.at_.hp) = true) ∧ (a.at_.pf == b.at_.pf) = true) ∧ (x.F = x.F ∧ legOk x a.at_.P a.at_.n ∧ legOk x b.at_.P b.at_.n)) ∧ legsE x a.at_.P a.at_.n b.at_.P b.at_.n = false)) := by kernel_rfl
theorem c6_14 (x : MX) (a b : MV) : (call_ (K3 x) x 6 [a.v, b.v] [some true, none, none, none, none, some true, none, none, none, none, none, some true, none, none, none, none, none, some true, none, none, none, none, none, none, none, some true, none, none, none, none, some true, none, none, none, none, none, some true, none, none, none, none, some true, none, none, none, none, none, some true, none, none, none, none, none, some true, none, none, none, none, none, some true, none, none, none, none, none, some true, none, none, none, none, none, some true, none, none, none, none, none, none, some true, none, none, none, none, none, none, none, some false]).map (fun r => (r.1, r.2.obl)) = some (.bool false, ((((((((((((((((((((True ∧ (a.k == b.k) = true) ∧ (a.op.asn == b.op.asn) = true) ∧ (a.op.hold == b.op.hold) = true) ∧ (a.op.id == b.op.id) = true) ∧ (x.F = x.F ∧ capOk x a.op.P a.op.n ∧ capOk x b.op.P b.op.n)) ∧ capsE x a.op.P a.op.n b.op.P b.op.n = true) ∧ (x.F = x.F ∧ preOk x a.gP a.gn ∧ preOk x b.gP b.gn)) ∧ presE x a.gP a.gn b.gP b.gn = true) ∧ (x.F = x.F ∧ preOk x a.nP a.nn ∧ preOk x b.nP b.nn)) ∧ presE x a.nP a.nn b.nP b.nn = true) ∧ (a.at_.o == b.at_.o) = true) ∧ (a.at_.nx == b.at_.nx) = true) ∧ (a.at_.hm == b.at_.hm) = true) ∧ (a.at_.md == b.at_.md) = true) ∧ (a.at_.hp == b.at_.hp) = true) ∧ (a.at_.pf == b.at_.pf) = true) ∧ (x.F = x.F ∧ legOk x a.at_.P a.at_.n ∧ legOk x b.at_.P b.at_.n)) ∧ legsE x a.at_.P a.at_.n b.at_.P b.at_.n = true) ∧ (x.F = x.F ∧ numOk x a.at_.Q a.at_.m ∧ numOk x b.at_.Q b.at_.m)) ∧ rowE x a.at_.Q a.at_.m b.at_.Q b.at_.m = false)) := by kernel_rfl
theorem c6_15 (x : MX) (a b : MV) : (call_ (K3 x) x 6 [a.v, b.v] [some true, none, none, none, none, some true, none, none, none, none, none, some true, none, none, none, none, none, some true, none, none, none, none, none, none, none, some true, none, none, none, none, some true, none, none, none, none, none, some true, none, none, none, none, some true, none, none, none, none, none, some true, none, none, none, none, none, some true, none, none, none, none, none, some true, none, none, none, none, none, some true, none, none, none, none, none, some true, none, none, none, none, none, none, some true, none, none, none, none, none, none, none, some true, none, none, none, none, none, none, none, some false]).map (fun r => (r.1, r.2.obl)) = some (.bool false, (((((((((((((((((((((True ∧ (a.k == b.k) = true) ∧ (a.op.asn == b.op.asn) = true) ∧ (a.op.hold == b.op.hold) = true) ∧ (a.op.id == b.op.id) = true) ∧ (x.F = x.F ∧ capOk x a.op.P a.op.n ∧ capOk x b.op.P b.op.n)) ∧ capsE x a.op.P a.op.n b.op.P b.op.n = true) ∧ (x.F = x.F ∧ preOk x a.gP a.gn ∧ preOk x b.gP b.gn)) ∧ presE x a.gP a.gn b.gP b.gn = true) ∧ (x.F = x.F ∧ preOk x a.nP a.nn ∧ preOk x b.nP b.nn)) ∧ presE x a.nP a.nn b.nP b.nn = true) ∧ (a.at_.o == b.at_.o) = true) ∧ (a.at_.nx == b.at_.nx) = true) ∧ (a.at_.hm == b.at_.hm) = true) ∧ (a.at_.md == b.at_.md) = true) ∧ (a.at_.hp == b.at_.hp) = true) ∧ (a.at_.pf == b.at_.pf) = true) ∧ (x.F = x.F ∧ legOk x a.at_.P a.at_.n ∧ legOk x b.at_.P b.at_.n)) ∧ legsE x a.at_.P a.at_.n b.at_.P b.at_.n = true) ∧ (x.F = x.F ∧ numOk x a.at_.Q a.at_.m ∧ numOk x b.at_.Q b.at_.m)) ∧ rowE x a.at_.Q a.at_.m b.at_.Q b.at_.m = true) ∧ (a.cd == b.cd) = false)) := by kernel_rfl
theorem c6_16 (x : MX) (a b : MV) : (call_ (K3 x) x 6 [a.v, b.v] [some true, none, none, none, none, some true, none, none, none, none, none, some true, none, none, none, none, none, some true, none, none, none, none, none, none, none, some true, none, none, none, none, some true, none, none, none, none, none, some true, none, none, none, none, some true, none, none, none, none, none, some true, none, none, none, none, none, some true, none, none, none, none, none, some true, none, none, none, none, none, some true, none, none, none, none, none, some true, none, none, none, none, none, none, some true, none, none, none, none, none, none, none, some true, none, none, none, none, none, none, none, some true, none, none, none, none, none, none, none, some false]).map (fun r => (r.1, r.2.obl)) = some (.bool false, ((((((((((((((((((((((True ∧ (a.k == b.k) = true) ∧ (a.op.asn == b.op.asn) = true) ∧ (a.op.hold == b.op.hold) = true) ∧ (a.op.id == b.op.id) = true) ∧ (x.F = x.F ∧ capOk x a.op.P a.op.n ∧ capOk x b.op.P b.op.n)) ∧ capsE x a.op.P a.op.n b.op.P b.op.n = true) ∧ (x.F = x.F ∧ preOk x a.gP a.gn ∧ preOk x b.gP b.gn)) ∧ presE x a.gP a.gn b.gP b.gn = true) ∧ (x.F = x.F ∧ preOk x a.nP a.nn ∧ preOk x b.nP b.nn)) ∧ presE x a.nP a.nn b.nP b.nn = true) ∧ (a.at_.o == b.at_.o) = true) ∧ (a.at_.nx == b.at_.nx) = true) ∧ (a.at_.hm == b.at_.hm) = true) ∧ (a.at_.md == b.at_.md) = true) ∧ (a.at_.hp == b.at_.hp) = true) ∧ (a.at_.pf == b.at_.pf) = true) ∧ (x.F = x.F ∧ legOk x a.at_.P a.at_.n ∧ legOk x b.at_.P b.at_.n)) ∧ legsE x a.at_.P a.at_.n b.at_.P b.at_.n = true) ∧ (x.F = x.F ∧ numOk x a.at_.Q a.at_.m ∧ numOk x b.at_.Q b.at_.m)) ∧ rowE x a.at_.Q a.at_.m b.at_.Q b.at_.m = true) ∧ (a.cd == b.cd) = true) ∧ (a.sb == b.sb) = false)) := by kernel_rfl
theorem c6_17 (x : MX) (a b : MV) : (call_ (K3 x) x 6 [a.v, b.v] [some true, none, none, none, none, some true, none, none, none, none, none, some true, none, none, none, none, none, some true, none, none, none, none, none, none, none, some true, none, none, none, none, some true, none, none, none, none, none, some true, none, none, none, none, some true, none, none, none, none, none, some true, none, none, none, none, none, some true, none, none, none, none, none, some true, none, none, none, none, none, some true, none, none, none, none, none, some true, none, none, none, none, none, none, some true, none, none, none, none, none, none, none, some true, none, none, none, none, none, none, none, some true, none, none, none, none, none, none, none, some true]).map (fun r => (r.1, r.2.obl)) = some (.bool (strE x a.dP a.dn b.dP b.dn), (((((((((((((((((((((((True ∧ (a.k == b.k) = true) ∧ (a.op.asn == b.op.asn) = true) ∧ (a.op.hold == b.op.hold) = true) ∧ (a.op.id == b.op.id) = true) ∧ (x.F = x.F ∧ capOk x a.op.P a.op.n ∧ capOk x b.op.P b.op.n)) ∧ capsE x a.op.P a.op.n b.op.P b.op.n = true) ∧ (x.F = x.F ∧ preOk x a.gP a.gn ∧ preOk x b.gP b.gn)) ∧ presE x a.gP a.gn b.gP b.gn = true) ∧ (x.F = x.F ∧ preOk x a.nP a.nn ∧ preOk x b.nP b.nn)) ∧ presE x a.nP a.nn b.nP b.nn = true) ∧ (a.at_.o == b.at_.o) = true) ∧ (a.at_.nx == b.at_.nx) = true) ∧ (a.at_.hm == b.at_.hm) = true) ∧ (a.at_.md == b.at_.md) = true) ∧ (a.at_.hp == b.at_.hp) = true) ∧ (a.at_.pf == b.at_.pf) = true) ∧ (x.F = x.F ∧ legOk x a.at_.P a.at_.n ∧ legOk x b.at_.P b.at_.n)) ∧ legsE x a.at_.P a.at_.n b.at_.P b.at_.n = true) ∧ (x.F = x.F ∧ numOk x a.at_.Q a.at_.m ∧ numOk x b.at_.Q b.at_.m)) ∧ rowE x a.at_.Q a.at_.m b.at_.Q b.at_.m = true) ∧ (a.cd == b.cd) = true) ∧ (a.sb == b.sb) = true) ∧ (x.F = x.F ∧ bytOk x a.dP a.dn ∧ bytOk x b.dP b.dn))) := by kernel_rfl
theorem rd6 {x : MX} {a b : MV} (ha : msgOk x a) (hb : msgOk x b) : Rd Tryz.prog x.F 6 [a.v, b.v] (.bool (msgE x a b)) := by
  by_cases g0 : ((a.k == b.k)) = true
  rotate_left
  · have g0 : ((a.k == b.k)) = false := Bool.eq_false_iff.2 g0
    rw [show msgE x a b = false by simp only [msgE, openE, attrsE, g0, Bool.false_and, Bool.true_and, Bool.and_false]]
    exact Rd.run pg (K3_ok x) (c6_0 x a b) ⟨trivial, g0⟩ rfl
  by_cases g1 : ((a.op.asn == b.op.asn)) = true
  rotate_left
  · have g1 : ((a.op.asn == b.op.asn)) = false := Bool.eq_false_iff.2 g1
    rw [show msgE x a b = false by simp only [msgE, openE, attrsE, g0, g1, Bool.false_and, Bool.true_and, Bool.and_false]]
    exact Rd.run pg (K3_ok x) (c6_1 x a b) ⟨⟨trivial, g0⟩, g1⟩ rfl
  by_cases g2 : ((a.op.hold == b.op.hold)) = true
  rotate_left
  · have g2 : ((a.op.hold == b.op.hold)) = false := Bool.eq_false_iff.2 g2
    rw [show msgE x a b = false by simp only [msgE, openE, attrsE, g0, g1, g2, Bool.false_and, Bool.true_and, Bool.and_false]]
    exact Rd.run pg (K3_ok x) (c6_2 x a b) ⟨⟨⟨trivial, g0⟩, g1⟩, g2⟩ rfl
  by_cases g3 : ((a.op.id == b.op.id)) = true
  rotate_left
  · have g3 : ((a.op.id == b.op.id)) = false := Bool.eq_false_iff.2 g3
    rw [show msgE x a b = false by simp only [msgE, openE, attrsE, g0, g1, g2, g3, Bool.false_and, Bool.true_and, Bool.and_false]]
    exact Rd.run pg (K3_ok x) (c6_3 x a b) ⟨⟨⟨⟨trivial, g0⟩, g1⟩, g2⟩, g3⟩ rfl
  by_cases g4 : (capsE x a.op.P a.op.n b.op.P b.op.n) = true
  rotate_left
  · have g4 : (capsE x a.op.P a.op.n b.op.P b.op.n) = false := Bool.eq_false_iff.2 g4
    rw [show msgE x a b = false by simp only [msgE, openE, attrsE, g0, g1, g2, g3, g4, Bool.false_and, Bool.true_and, Bool.and_false]]
    exact Rd.run pg (K3_ok x) (c6_4 x a b) ⟨⟨⟨⟨⟨⟨trivial, g0⟩, g1⟩, g2⟩, g3⟩, ⟨rfl, ha.1, hb.1⟩⟩, g4⟩ rfl
  by_cases g5 : (presE x a.gP a.gn b.gP b.gn) = true
  rotate_left
  · have g5 : (presE x a.gP a.gn b.gP b.gn) = false := Bool.eq_false_iff.2 g5
    rw [show msgE x a b = false by simp only [msgE, openE, attrsE, g0, g1, g2, g3, g4, g5, Bool.false_and, Bool.true_and, Bool.and_false]]
    exact Rd.run pg (K3_ok x) (c6_5 x a b) ⟨⟨⟨⟨⟨⟨⟨⟨trivial, g0⟩, g1⟩, g2⟩, g3⟩, ⟨rfl, ha.1, hb.1⟩⟩, g4⟩, ⟨rfl, ha.2.1, hb.2.1⟩⟩, g5⟩ rfl
  by_cases g6 : (presE x a.nP a.nn b.nP b.nn) = true
  rotate_left
  · have g6 : (presE x a.nP a.nn b.nP b.nn) = false := Bool.eq_false_iff.2 g6
    rw [show msgE x a b = false by simp only [msgE, openE, attrsE, g0, g1, g2, g3, g4, g5, g6, Bool.false_and, Bool.true_and, Bool.and_false]]
    exact Rd.run pg (K3_ok x) (c6_6 x a b) ⟨⟨⟨⟨⟨⟨⟨⟨⟨⟨trivial, g0⟩, g1⟩, g2⟩, g3⟩, ⟨rfl, ha.1, hb.1⟩⟩, g4⟩, ⟨rfl, ha.2.1, hb.2.1⟩⟩, g5⟩, ⟨rfl, ha.2.2.1, hb.2.2.1⟩⟩, g6⟩ rfl
  by_cases g7 : ((a.at_.o == b.at_.o)) = true
  rotate_left
  · have g7 : ((a.at_.o == b.at_.o)) = false := Bool.eq_false_iff.2 g7
    rw [show msgE x a b = false by simp only [msgE, openE, attrsE, g0, g1, g2, g3, g4, g5, g6, g7, Bool.false_and, Bool.true_and, Bool.and_false]]
    exact Rd.run pg (K3_ok x) (c6_7 x a b) ⟨⟨⟨⟨⟨⟨⟨⟨⟨⟨⟨trivial, g0⟩, g1⟩, g2⟩, g3⟩, ⟨rfl, ha.1, hb.1⟩⟩, g4⟩, ⟨rfl, ha.2.1, hb.2.1⟩⟩, g5⟩, ⟨rfl, ha.2.2.1, hb.2.2.1⟩⟩, g6⟩, g7⟩ rfl
  by_cases g8 : ((a.at_.nx == b.at_.nx)) = true
  rotate_left
  · have g8 : ((a.at_.nx == b.at_.nx)) = false := Bool.eq_false_iff.2 g8
    rw [show msgE x a b = false by simp only [msgE, openE, attrsE, g0, g1, g2, g3, g4, g5, g6, g7, g8, Bool.false_and, Bool.true_and, Bool.and_false]]
    exact Rd.run pg (K3_ok x) (c6_8 x a b) ⟨⟨⟨⟨⟨⟨⟨⟨⟨⟨⟨⟨trivial, g0⟩, g1⟩, g2⟩, g3⟩, ⟨rfl, ha.1, hb.1⟩⟩, g4⟩, ⟨rfl, ha.2.1, hb.2.1⟩⟩, g5⟩, ⟨rfl, ha.2.2.1, hb.2.2.1⟩⟩, g6⟩, g7⟩, g8⟩ rfl
  by_cases g9 : ((a.at_.hm == b.at_.hm)) = true
  rotate_left
  · have g9 : ((a.at_.hm == b.at_.hm)) = false := Bool.eq_false_iff.2 g9
    rw [show msgE x a b = false by simp only [msgE, openE, attrsE, g0, g1, g2, g3, g4, g5, g6, g7, g8, g9, Bool.false_and, Bool.true_and, Bool.and_false]]
    exact Rd.run pg (K3_ok x) (c6_9 x a b) ⟨⟨⟨⟨⟨⟨⟨⟨⟨⟨⟨⟨⟨trivial, g0⟩, g1⟩, g2⟩, g3⟩, ⟨rfl, ha.1, hb.1⟩⟩, g4⟩, ⟨rfl, ha.2.1, hb.2.1⟩⟩, g5⟩, ⟨rfl, ha.2.2.1, hb.2.2.1⟩⟩, g6⟩, g7⟩, g8⟩, g9⟩ rfl
  by_cases g10 : ((a.at_.md == b.at_.md)) = true
  rotate_left
  · have g10 : ((a.at_.md == b.at_.md)) = false := Bool.eq_false_iff.2 g10
    rw [show msgE x a b = false by simp only [msgE, openE, attrsE, g0, g1, g2, g3, g4, g5, g6, g7, g8, g9, g10, Bool.false_and, Bool.true_and, Bool.and_false]]
    exact Rd.run pg (K3_ok x) (c6_10 x a b) ⟨⟨⟨⟨⟨⟨⟨⟨⟨⟨⟨⟨⟨⟨trivial, g0⟩, g1⟩, g2⟩, g3⟩, ⟨rfl, ha.1, hb.1⟩⟩, g4⟩, ⟨rfl, ha.2.1, hb.2.1⟩⟩, g5⟩, ⟨rfl, ha.2.2.1, hb.2.2.1⟩⟩, g6⟩, g7⟩, g8⟩, g9⟩, g10⟩ rfl
  by_cases g11 : ((a.at_.hp == b.at_.hp)) = true
  rotate_left
  · have g11 : ((a.at_.hp == b.at_.hp)) = false := Bool.eq_false_iff.2 g11
    rw [show msgE x a b = false by simp only [msgE, openE, attrsE, g0, g1, g2, g3, g4, g5, g6, g7, g8, g9, g10, g11, Bool.false_and, Bool.true_and, Bool.and_false]]
    exact Rd.run pg (K3_ok x) (c6_11 x a b) ⟨⟨⟨⟨⟨⟨⟨⟨⟨⟨⟨⟨⟨⟨⟨trivial, g0⟩, g1⟩, g2⟩, g3⟩, ⟨rfl, ha.1, hb.1⟩⟩, g4⟩, ⟨rfl, ha.2.1, hb.2.1⟩⟩, g5⟩, ⟨rfl, ha.2.2.1, hb.2.2.1⟩⟩, g6⟩, g7⟩, g8⟩, g9⟩, g10⟩, g11⟩ rfl
  by_cases g12 : ((a.at_.pf == b.at_.pf)) = true
  rotate_left
  · have g12 : ((a.at_.pf == b.at_.pf)) = false := Bool.eq_false_iff.2 g12
    rw [show msgE x a b = false by simp only [msgE, openE, attrsE, g0, g1, g2, g3, g4, g5, g6, g7, g8, g9, g10, g11, g12, Bool.false_and, Bool.true_and, Bool.and_false]]
    exact Rd.run pg (K3_ok x) (c6_12 x a b) ⟨⟨⟨⟨⟨⟨⟨⟨⟨⟨⟨⟨⟨⟨⟨⟨trivial, g0⟩, g1⟩, g2⟩, g3⟩, ⟨rfl, ha.1, hb.1⟩⟩, g4⟩, ⟨rfl, ha.2.1, hb.2.1⟩⟩, g5⟩, ⟨rfl, ha.2.2.1, hb.2.2.1⟩⟩, g6⟩, g7⟩, g8⟩, g9⟩, g10⟩, g11⟩, g12⟩ rfl
  by_cases g13 : (legsE x a.at_.P a.at_.n b.at_.P b.at_.n) = true
  rotate_left
  · have g13 : (legsE x a.at_.P a.at_.n b.at_.P b.at_.n) = false := Bool.eq_false_iff.2 g13
    rw [show msgE x a b = false by simp only [msgE, openE, attrsE, g0, g1, g2, g3, g4, g5, g6, g7, g8, g9, g10, g11, g12, g13, Bool.false_and, Bool.true_and, Bool.and_false]]
    exact Rd.run pg (K3_ok x) (c6_13 x a b) ⟨⟨⟨⟨⟨⟨⟨⟨⟨⟨⟨⟨⟨⟨⟨⟨⟨⟨trivial, g0⟩, g1⟩, g2⟩, g3⟩, ⟨rfl, ha.1, hb.1⟩⟩, g4⟩, ⟨rfl, ha.2.1, hb.2.1⟩⟩, g5⟩, ⟨rfl, ha.2.2.1, hb.2.2.1⟩⟩, g6⟩, g7⟩, g8⟩, g9⟩, g10⟩, g11⟩, g12⟩, ⟨rfl, ha.2.2.2.1, hb.2.2.2.1⟩⟩, g13⟩ rfl
  by_cases g14 : (rowE x a.at_.Q a.at_.m b.at_.Q b.at_.m) = true
  rotate_left
  · have g14 : (rowE x a.at_.Q a.at_.m b.at_.Q b.at_.m) = false := Bool.eq_false_iff.2 g14
    rw [show msgE x a b = false by simp only [msgE, openE, attrsE, g0, g1, g2, g3, g4, g5, g6, g7, g8, g9, g10, g11, g12, g13, g14, Bool.false_and, Bool.true_and, Bool.and_false]]
    exact Rd.run pg (K3_ok x) (c6_14 x a b) ⟨⟨⟨⟨⟨⟨⟨⟨⟨⟨⟨⟨⟨⟨⟨⟨⟨⟨⟨⟨trivial, g0⟩, g1⟩, g2⟩, g3⟩, ⟨rfl, ha.1, hb.1⟩⟩, g4⟩, ⟨rfl, ha.2.1, hb.2.1⟩⟩, g5⟩, ⟨rfl, ha.2.2.1, hb.2.2.1⟩⟩, g6⟩, g7⟩, g8⟩, g9⟩, g10⟩, g11⟩, g12⟩, ⟨rfl, ha.2.2.2.1, hb.2.2.2.1⟩⟩, g13⟩, ⟨rfl, ha.2.2.2.2.1, hb.2.2.2.2.1⟩⟩, g14⟩ rfl
  by_cases g15 : ((a.cd == b.cd)) = true
  rotate_left
  · have g15 : ((a.cd == b.cd)) = false := Bool.eq_false_iff.2 g15
    rw [show msgE x a b = false by simp only [msgE, openE, attrsE, g0, g1, g2, g3, g4, g5, g6, g7, g8, g9, g10, g11, g12, g13, g14, g15, Bool.false_and, Bool.true_and, Bool.and_false]]
    exact Rd.run pg (K3_ok x) (c6_15 x a b) ⟨⟨⟨⟨⟨⟨⟨⟨⟨⟨⟨⟨⟨⟨⟨⟨⟨⟨⟨⟨⟨trivial, g0⟩, g1⟩, g2⟩, g3⟩, ⟨rfl, ha.1, hb.1⟩⟩, g4⟩, ⟨rfl, ha.2.1, hb.2.1⟩⟩, g5⟩, ⟨rfl, ha.2.2.1, hb.2.2.1⟩⟩, g6⟩, g7⟩, g8⟩, g9⟩, g10⟩, g11⟩, g12⟩, ⟨rfl, ha.2.2.2.1, hb.2.2.2.1⟩⟩, g13⟩, ⟨rfl, ha.2.2.2.2.1, hb.2.2.2.2.1⟩⟩, g14⟩, g15⟩ rfl
  by_cases g16 : ((a.sb == b.sb)) = true
  rotate_left
  · have g16 : ((a.sb == b.sb)) = false := Bool.eq_false_iff.2 g16
    rw [show msgE x a b = false by simp only [msgE, openE, attrsE, g0, g1, g2, g3, g4, g5, g6, g7, g8, g9, g10, g11, g12, g13, g14, g15, g16, Bool.false_and, Bool.true_and, Bool.and_false]]
    exact Rd.run pg (K3_ok x) (c6_16 x a b) ⟨⟨⟨⟨⟨⟨⟨⟨⟨⟨⟨⟨⟨⟨⟨⟨⟨⟨⟨⟨⟨⟨trivial, g0⟩, g1⟩, g2⟩, g3⟩, ⟨rfl, ha.1, hb.1⟩⟩, g4⟩, ⟨rfl, ha.2.1, hb.2.1⟩⟩, g5⟩, ⟨rfl, ha.2.2.1, hb.2.2.1⟩⟩, g6⟩, g7⟩, g8⟩, g9⟩, g10⟩, g11⟩, g12⟩, ⟨rfl, ha.2.2.2.1, hb.2.2.2.1⟩⟩, g13⟩, ⟨rfl, ha.2.2.2.2.1, hb.2.2.2.2.1⟩⟩, g14⟩, g15⟩, g16⟩ rfl
  rw [show msgE x a b = strE x a.dP a.dn b.dP b.dn by simp only [msgE, openE, attrsE, g0, g1, g2, g3, g4, g5, g6, g7, g8, g9, g10, g11, g12, g13, g14, g15, g16, Bool.true_and]]
  exact Rd.run pg (K3_ok x) (c6_17 x a b) ⟨⟨⟨⟨⟨⟨⟨⟨⟨⟨⟨⟨⟨⟨⟨⟨⟨⟨⟨⟨⟨⟨⟨trivial, g0⟩, g1⟩, g2⟩, g3⟩, ⟨rfl, ha.1, hb.1⟩⟩, g4⟩, ⟨rfl, ha.2.1, hb.2.1⟩⟩, g5⟩, ⟨rfl, ha.2.2.1, hb.2.2.1⟩⟩, g6⟩, g7⟩, g8⟩, g9⟩, g10⟩, g11⟩, g12⟩, ⟨rfl, ha.2.2.2.1, hb.2.2.2.1⟩⟩, g13⟩, ⟨rfl, ha.2.2.2.2.1, hb.2.2.2.2.1⟩⟩, g14⟩, g15⟩, g16⟩, ⟨rfl, ha.2.2.2.2.2, hb.2.2.2.2.2⟩⟩ rfl
theorem c7_0 (x : MX) (a b : MV) : (call_ (K3 x) x 7 [a.v, b.v] [some false]).map (fun r => (r.1, r.2.obl)) = some (.bool false, (True ∧ (a.k == b.k) = false)) := by kernel_rfl
theorem c7_1 (x : MX) (a b : MV) : (call_ (K3 x) x 7 [a.v, b.v] [some true, none, none, none, none, none, some false]).map (fun r => (r.1, r.2.obl)) = some (.bool false, (((True ∧ (a.k == b.k) = true) ∧ (x.F = x.F ∧ capOk x a.op.P a.op.n ∧ capOk x b.op.P b.op.n)) ∧ openE x a.op b.op = false)) := by kernel_rfl
theorem c7_2 (x : MX) (a b : MV) : (call_ (K3 x) x 7 [a.v, b.v] [some true, none, none, none, none, none, some true, none, none, none, none, some false]).map (fun r => (r.1, r.2.obl)) = some (.bool false, (((((True ∧ (a.k == b.k) = true) ∧ (x.F = x.F ∧ capOk x a.op.P a.op.n ∧ capOk x b.op.P b.op.n)) ∧ openE x a.op b.op = true) ∧ (x.F = x.F ∧ preOk x a.gP a.gn ∧ preOk x b.gP b.gn)) ∧ presE x a.gP a.gn b.gP b.gn = false)) := by kernel_rfl
theorem c7_3 (x : MX) (a b : MV) : (call_ (K3 x) x 7 [a.v, b.v] [some true, none, none, none, none, none, some true, none, none, none, none, some true, none, none, none, none, none, some false]).map (fun r => (r.1, r.2.obl)) = some (.bool false, (((((((True ∧ (a.k == b.k) = true) ∧ (x.F = x.F ∧ capOk x a.op.P a.op.n ∧ capOk x b.op.P b.op.n)) ∧ openE x a.op b.op = true) ∧ (x.F = x.F ∧ preOk x a.gP a.gn ∧ preOk x b.gP b.gn)) ∧ presE x a.gP a.gn b.gP b.gn = true) ∧ (x.F = x.F ∧ preOk x a.nP a.nn ∧ preOk x b.nP b.nn)) ∧ presE x a.nP a.nn b.nP b.nn = false)) := by kernel_rfl
theorem c7_4 (x : MX) (a b : MV) : (call_ (K3 x) x 7 [a.v, b.v] [some true, none, none, none, none, none, some true, none, none, none, none, some true, none, none, none, none, none, some true, none, none, none, none, none, none, some false]).map (fun r => (r.1, r.2.obl)) = some (.bool false, (((((((((True ∧ (a.k == b.k) = true) ∧ (x.F = x.F ∧ capOk x a.op.P a.op.n ∧ capOk x b.op.P b.op.n)) ∧ openE x a.op b.op = true) ∧ (x.F = x.F ∧ preOk x a.gP a.gn ∧ preOk x b.gP b.gn)) ∧ presE x a.gP a.gn b.gP b.gn = true) ∧ (x.F = x.F ∧ preOk x a.nP a.nn ∧ preOk x b.nP b.nn)) ∧ presE x a.nP a.nn b.nP b.nn = true) ∧ (x.F = x.F ∧ legOk x a.at_.P a.at_.n ∧ legOk x b.at_.P b.at_.n ∧ numOk x a.at_.Q a.at_.m ∧ numOk x b.at_.Q b.at_.m)) ∧ attrsE x a.at_ b.at_ = false)) := by kernel_rfl
theorem c7_5 (x : MX) (a b : MV) : (call_ (K3 x) x 7 [a.v, b.v] [some true, none, none, none, none, none, some true, none, none, none, none, some true, none, none, none, none, none, some true, none, none, none, none, none, none, some true, none, none, none, none, none, some false]).map (fun r => (r.1, r.2.obl)) = some (.bool false, ((((((((((True ∧ (a.k == b.k) = true) ∧ (x.F = x.F ∧ capOk x a.op.P a.op.n ∧ capOk x b.op.P b.op.n)) ∧ openE x a.op b.op = true) ∧ (x.F = x.F ∧ preOk x a.gP a.gn ∧ preOk x b.gP b.gn)) ∧ presE x a.gP a.gn b.gP b.gn = true) ∧ (x.F = x.F ∧ preOk x a.nP a.nn ∧ preOk x b.nP b.nn)) ∧ presE x a.nP a.nn b.nP b.nn = true) ∧ (x.F = x.F ∧ legOk x a.at_.P a.at_.n ∧ legOk x b.at_.P b.at_.n ∧ numOk x a.at_.Q a.at_.m ∧ numOk x b.at_.Q b.at_.m)) ∧ attrsE x a.at_ b.at_ = true) ∧ (a.cd == b.cd) = false)) := by kernel_rfl
theorem c7_6 (x : MX) (a b : MV) : (call_ (K3 x) x 7 [a.v, b.v] [some true, none, none, none, none, none, some true, none, none, none, none, some true, none, none, none, none, none, some true, none, none, none, none, none, none, some true, none, none, none, none, none, some true, none, none, none, none, none, some false]).map (fun r => (r.1, r.2.obl)) = some (.bool false, (((((((((((True ∧ (a.k == b.k) = true) ∧ (x.F = x.F ∧ capOk x a.op.P a.op.n ∧ capOk x b.op.P b.op.n)) ∧ openE x a.op b.op = true) ∧ (x.F = x.F ∧ preOk x a.gP a.gn ∧ preOk x b.gP b.gn)) ∧ presE x a.gP a.gn b.gP b.gn = true) ∧ (x.F = x.F ∧ preOk x a.nP a.nn ∧ preOk x b.nP b.nn)) ∧ presE x a.nP a.nn b.nP b.nn = true) ∧ (x.F = x.F ∧ legOk x a.at_.P a.at_.n ∧ legOk x b.at_.P b.at_.n ∧ numOk x a.at_.Q a.at_.m ∧ numOk x b.at_.Q b.at_.m)) ∧ attrsE x a.at_ b.at_ = true) ∧ (a.cd == b.cd) = true) ∧ (a.sb == b.sb) = false)) := by kernel_rfl
theorem c7_7 (x : MX) (a b : MV) : (call_ (K3 x) x 7 [a.v, b.v] [some true, none, none, none, none, none, some true, none, none, none, none, some true, none, none, none, none, none, some true, none, none, none, none, none, none, some true, none, none, none, none, none, some true, none, none, none, none, none, some true]).map (fun r => (r.1, r.2.obl)) = some (.bool (strE x a.dP a.dn b.dP b.dn), (((((((((((((True ∧ (a.k == b.k) = true) ∧ (x.F = x.F ∧ capOk x a.op.P a.op.n ∧ capOk x b.op.P b.op.n)) ∧ openE x a.op b.op = true) ∧ (x.F = x.F ∧ preOk x a.gP a.gn ∧ preOk x b.gP b.gn)) ∧ presE x a.gP a.gn b.gP b.gn = true) ∧ (x.F = x.F ∧ preOk x a.nP a.nn ∧ preOk x b.nP b.nn)) ∧ presE x a.nP a.nn b.nP b.nn = true) ∧ (x.F = x.F ∧ legOk x a.at_.P a.at_.n ∧ legOk x b.at_.P b.at_.n ∧ numOk x a.at_.Q a.at_.m ∧ numOk x b.at_.Q b.at_.m)) ∧ attrsE x a.at_ b.at_ = true) ∧ (a.cd == b.cd) = true) ∧ (a.sb == b.sb) = true) ∧ (a.dn = 0 ∨ 0 + a.dn ≤ (x.D a.dP).length)) ∧ (b.dn = 0 ∨ 0 + b.dn ≤ (x.D b.dP).length))) := by kernel_rfl
theorem rd7 {x : MX} {a b : MV} (ha : msgOk x a) (hb : msgOk x b) : Rd Tryz.prog x.F 7 [a.v, b.v] (.bool (msgE x a b)) := by
  by_cases g0 : ((a.k == b.k)) = true
  rotate_left
  · have g0 : ((a.k == b.k)) = false := Bool.eq_false_iff.2 g0
    rw [show msgE x a b = false by simp only [msgE, g0, Bool.false_and, Bool.true_and, Bool.and_false]]
    exact Rd.run pg (K3_ok x) (c7_0 x a b) ⟨trivial, g0⟩ rfl
  by_cases g1 : (openE x a.op b.op) = true
  rotate_left
  · have g1 : (openE x a.op b.op) = false := Bool.eq_false_iff.2 g1
    rw [show msgE x a b = false by simp only [msgE, g0, g1, Bool.false_and, Bool.true_and, Bool.and_false]]
    exact Rd.run pg (K3_ok x) (c7_1 x a b) ⟨⟨⟨trivial, g0⟩, ⟨rfl, ha.1, hb.1⟩⟩, g1⟩ rfl
  by_cases g2 : (presE x a.gP a.gn b.gP b.gn) = true
  rotate_left
  · have g2 : (presE x a.gP a.gn b.gP b.gn) = false := Bool.eq_false_iff.2 g2
    rw [show msgE x a b = false by simp only [msgE, g0, g1, g2, Bool.false_and, Bool.true_and, Bool.and_false]]
    exact Rd.run pg (K3_ok x) (c7_2 x a b) ⟨⟨⟨⟨⟨trivial, g0⟩, ⟨rfl, ha.1, hb.1⟩⟩, g1⟩, ⟨rfl, ha.2.1, hb.2.1⟩⟩, g2⟩ rfl
  by_cases g3 : (presE x a.nP a.nn b.nP b.nn) = true
  rotate_left
  · have g3 : (presE x a.nP a.nn b.nP b.nn) = false := Bool.eq_false_iff.2 g3
    rw [show msgE x a b = false by simp only [msgE, g0, g1, g2, g3, Bool.false_and, Bool.true_and, Bool.and_false]]
    exact Rd.run pg (K3_ok x) (c7_3 x a b) ⟨⟨⟨⟨⟨⟨⟨trivial, g0⟩, ⟨rfl, ha.1, hb.1⟩⟩, g1⟩, ⟨rfl, ha.2.1, hb.2.1⟩⟩, g2⟩, ⟨rfl, ha.2.2.1, hb.2.2.1⟩⟩, g3⟩ rfl
  by_cases g4 : (attrsE x a.at_ b.at_) = true
  rotate_left
  · have g4 : (attrsE x a.at_ b.at_) = false := Bool.eq_false_iff.2 g4
    rw [show msgE x a b = false by simp only [msgE, g0, g1, g2, g3, g4, Bool.false_and, Bool.true_and, Bool.and_false]]
    exact Rd.run pg (K3_ok x) (c7_4 x a b) ⟨⟨⟨⟨⟨⟨⟨⟨⟨trivial, g0⟩, ⟨rfl, ha.1, hb.1⟩⟩, g1⟩, ⟨rfl, ha.2.1, hb.2.1⟩⟩, g2⟩, ⟨rfl, ha.2.2.1, hb.2.2.1⟩⟩, g3⟩, ⟨rfl, ha.2.2.2.1, hb.2.2.2.1, ha.2.2.2.2.1, hb.2.2.2.2.1⟩⟩, g4⟩ rfl
  by_cases g5 : ((a.cd == b.cd)) = true
  rotate_left
  · have g5 : ((a.cd == b.cd)) = false := Bool.eq_false_iff.2 g5
    rw [show msgE x a b = false by simp only [msgE, g0, g1, g2, g3, g4, g5, Bool.false_and, Bool.true_and, Bool.and_false]]
    exact Rd.run pg (K3_ok x) (c7_5 x a b) ⟨⟨⟨⟨⟨⟨⟨⟨⟨⟨trivial, g0⟩, ⟨rfl, ha.1, hb.1⟩⟩, g1⟩, ⟨rfl, ha.2.1, hb.2.1⟩⟩, g2⟩, ⟨rfl, ha.2.2.1, hb.2.2.1⟩⟩, g3⟩, ⟨rfl, ha.2.2.2.1, hb.2.2.2.1, ha.2.2.2.2.1, hb.2.2.2.2.1⟩⟩, g4⟩, g5⟩ rfl
  by_cases g6 : ((a.sb == b.sb)) = true
  rotate_left
  · have g6 : ((a.sb == b.sb)) = false := Bool.eq_false_iff.2 g6
    rw [show msgE x a b = false by simp only [msgE, g0, g1, g2, g3, g4, g5, g6, Bool.false_and, Bool.true_and, Bool.and_false]]
    exact Rd.run pg (K3_ok x) (c7_6 x a b) ⟨⟨⟨⟨⟨⟨⟨⟨⟨⟨⟨trivial, g0⟩, ⟨rfl, ha.1, hb.1⟩⟩, g1⟩, ⟨rfl, ha.2.1, hb.2.1⟩⟩, g2⟩, ⟨rfl, ha.2.2.1, hb.2.2.1⟩⟩, g3⟩, ⟨rfl, ha.2.2.2.1, hb.2.2.2.1, ha.2.2.2.2.1, hb.2.2.2.2.1⟩⟩, g4⟩, g5⟩, g6⟩ rfl
  rw [show msgE x a b = strE x a.dP a.dn b.dP b.dn by simp only [msgE, g0, g1, g2, g3, g4, g5, g6, Bool.true_and]]
  exact Rd.run pg (K3_ok x) (c7_7 x a b) ⟨⟨⟨⟨⟨⟨⟨⟨⟨⟨⟨⟨⟨trivial, g0⟩, ⟨rfl, ha.1, hb.1⟩⟩, g1⟩, ⟨rfl, ha.2.1, hb.2.1⟩⟩, g2⟩, ⟨rfl, ha.2.2.1, hb.2.2.1⟩⟩, g3⟩, ⟨rfl, ha.2.2.2.1, hb.2.2.2.1, ha.2.2.2.2.1, hb.2.2.2.2.1⟩⟩, g4⟩, g5⟩, g6⟩, (by have := ha.2.2.2.2.2.1; omega)⟩, (by have := hb.2.2.2.2.2.1; omega)⟩ rfl
end
end ob
end Go.Proofs.YtopgddoncehhnaaGreat
