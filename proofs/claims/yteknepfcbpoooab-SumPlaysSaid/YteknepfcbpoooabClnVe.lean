/- Read off the code by the clean reading. -/
import Derived.Test.YteknepfcbpoooabClnVd
set_option linter.unusedVariables false
set_option linter.unusedSimpArgs false
set_option linter.deprecated false
set_option maxRecDepth 100000
namespace Go.Proofs.Yteknepfcbpoooab
open Go.ChangeShapes Go.WideShapes Go.ChangeAt Go.RowKit Go.Cln
namespace sp
open sd
open pa (rawN)
open pc (RT)
set_option linter.unusedVariables false
noncomputable section
def Wx (i : Nat) : Bool := (Nat.ble 18 i && Nat.ble i 21)
def Vx (v : VF) : VF := fun i => match Wx i with
  | true => junk
  | false => v i
def Bx (i : Nat) : Bool := Nat.ble i 5 || Nat.beq i 27 && false || Wx i
theorem Vx_dead {v : VF} (h : ∀ i, DeadV (v i)) (i : Nat) : DeadV (Vx v i) := by
  unfold Vx
  split
  · exact DeadV.junk
  · exact h i
def Wy (i : Nat) : Bool := (Nat.ble 6 i && Nat.ble i 7) || (Nat.ble 18 i && Nat.ble i 21) || (Nat.ble 24 i && Nat.ble i 26) || (Nat.ble 28 i && Nat.ble i 34)
def Vy (v : VF) : VF := fun i => match Nat.beq i 27 with
  | true => .agg #[junk, junk, junk]
  | false => match Wy i with
    | true => junk
    | false => v i
def By (i : Nat) : Bool := Nat.ble i 5 || Nat.beq i 27 || Wy i
theorem Vy_dead {v : VF} (h : ∀ i, DeadV (v i)) (i : Nat) : DeadV (Vy v i) := by
  unfold Vy
  split
  · exact ⟨rfl, fun _ => rfl, fun _ => rfl⟩
  · split
    · exact DeadV.junk
    · exact h i
def tmY (v : VF) (n c k : Nat) : List Value := [S n c, undef, .bool true, .slice (some ⟨4, 0, none⟩) 2 2, .pointer (some ⟨5, 0, none⟩), .int .i64 (nI k), v 6, v 7, v 8, v 9, v 10, v 11, v 12, v 13, v 14, v 15, v 16, v 17, v 18, v 19, v 20, v 21, v 22, v 23, v 24, v 25, v 26, v 27, v 28, v 29, v 30, v 31, v 32, v 33, v 34, v 35, v 36, v 37, v 38, v 39, v 40, v 41, v 42, v 43, v 44, v 45, v 46, v 47, v 48, v 49, v 50, v 51, v 52, v 53, v 54, v 55, v 56, v 57, v 58, v 59, v 60, v 61, v 62, v 63, v 64, v 65, v 66, v 67, v 68, v 69, v 70, v 71, v 72, v 73, v 74, v 75, v 76, v 77, v 78, v 79, v 80, v 81, v 82, v 83, v 84, v 85, v 86, v 87, v 88, v 89, v 90, v 91, v 92, v 93, v 94, v 95, v 96, v 97, v 98, v 99, v 100, v 101, v 102, v 103, v 104, v 105, v 106, v 107, v 108, v 109, v 110, v 111, v 112, v 113, v 114, v 115, v 116, v 117, v 118, v 119, v 120, v 121, v 122, v 123, v 124, v 125, v 126, v 127, v 128, v 129, v 130, v 131, v 132, v 133, v 134, v 135, v 136, v 137, v 138, v 139, v 140, v 141, v 142, v 143, v 144, v 145, v 146, v 147, v 148, v 149, v 150, v 151, v 152, v 153, v 154, v 155, v 156, v 157, v 158, v 159, v 160, v 161, v 162, v 163]
theorem tmY_dead {v : VF} {n c k : Nat} {B : Nat → Bool} (h : ∀ i, DeadV (v i)) (hB : ∀ i, i < 6 → B i = true) : deadT B 0 (tmY v n c k) :=
  ⟨fun e => absurd e (by rw [hB 0 (by decide)]; decide), ⟨fun e => absurd e (by rw [hB 1 (by decide)]; decide), ⟨fun e => absurd e (by rw [hB 2 (by decide)]; decide), ⟨fun e => absurd e (by rw [hB 3 (by decide)]; decide), ⟨fun e => absurd e (by rw [hB 4 (by decide)]; decide), ⟨fun e => absurd e (by rw [hB 5 (by decide)]; decide), ⟨fun _ => h 6, ⟨fun _ => h 7, ⟨fun _ => h 8, ⟨fun _ => h 9, ⟨fun _ => h 10, ⟨fun _ => h 11, ⟨fun _ => h 12, ⟨fun _ => h 13, ⟨fun _ => h 14, ⟨fun _ => h 15, ⟨fun _ => h 16, ⟨fun _ => h 17, ⟨fun _ => h 18, ⟨fun _ => h 19, ⟨fun _ => h 20, ⟨fun _ => h 21, ⟨fun _ => h 22, ⟨fun _ => h 23, ⟨fun _ => h 24, ⟨fun _ => h 25, ⟨fun _ => h 26, ⟨fun _ => h 27, ⟨fun _ => h 28, ⟨fun _ => h 29, ⟨fun _ => h 30, ⟨fun _ => h 31, ⟨fun _ => h 32, ⟨fun _ => h 33, ⟨fun _ => h 34, ⟨fun _ => h 35, ⟨fun _ => h 36, ⟨fun _ => h 37, ⟨fun _ => h 38, ⟨fun _ => h 39, ⟨fun _ => h 40, ⟨fun _ => h 41, ⟨fun _ => h 42, ⟨fun _ => h 43, ⟨fun _ => h 44, ⟨fun _ => h 45, ⟨fun _ => h 46, ⟨fun _ => h 47, ⟨fun _ => h 48, ⟨fun _ => h 49, ⟨fun _ => h 50, ⟨fun _ => h 51, ⟨fun _ => h 52, ⟨fun _ => h 53, ⟨fun _ => h 54, ⟨fun _ => h 55, ⟨fun _ => h 56, ⟨fun _ => h 57, ⟨fun _ => h 58, ⟨fun _ => h 59, ⟨fun _ => h 60, ⟨fun _ => h 61, ⟨fun _ => h 62, ⟨fun _ => h 63, ⟨fun _ => h 64, ⟨fun _ => h 65, ⟨fun _ => h 66, ⟨fun _ => h 67, ⟨fun _ => h 68, ⟨fun _ => h 69, ⟨fun _ => h 70, ⟨fun _ => h 71, ⟨fun _ => h 72, ⟨fun _ => h 73, ⟨fun _ => h 74, ⟨fun _ => h 75, ⟨fun _ => h 76, ⟨fun _ => h 77, ⟨fun _ => h 78, ⟨fun _ => h 79, ⟨fun _ => h 80, ⟨fun _ => h 81, ⟨fun _ => h 82, ⟨fun _ => h 83, ⟨fun _ => h 84, ⟨fun _ => h 85, ⟨fun _ => h 86, ⟨fun _ => h 87, ⟨fun _ => h 88, ⟨fun _ => h 89, ⟨fun _ => h 90, ⟨fun _ => h 91, ⟨fun _ => h 92, ⟨fun _ => h 93, ⟨fun _ => h 94, ⟨fun _ => h 95, ⟨fun _ => h 96, ⟨fun _ => h 97, ⟨fun _ => h 98, ⟨fun _ => h 99, ⟨fun _ => h 100, ⟨fun _ => h 101, ⟨fun _ => h 102, ⟨fun _ => h 103, ⟨fun _ => h 104, ⟨fun _ => h 105, ⟨fun _ => h 106, ⟨fun _ => h 107, ⟨fun _ => h 108, ⟨fun _ => h 109, ⟨fun _ => h 110, ⟨fun _ => h 111, ⟨fun _ => h 112, ⟨fun _ => h 113, ⟨fun _ => h 114, ⟨fun _ => h 115, ⟨fun _ => h 116, ⟨fun _ => h 117, ⟨fun _ => h 118, ⟨fun _ => h 119, ⟨fun _ => h 120, ⟨fun _ => h 121, ⟨fun _ => h 122, ⟨fun _ => h 123, ⟨fun _ => h 124, ⟨fun _ => h 125, ⟨fun _ => h 126, ⟨fun _ => h 127, ⟨fun _ => h 128, ⟨fun _ => h 129, ⟨fun _ => h 130, ⟨fun _ => h 131, ⟨fun _ => h 132, ⟨fun _ => h 133, ⟨fun _ => h 134, ⟨fun _ => h 135, ⟨fun _ => h 136, ⟨fun _ => h 137, ⟨fun _ => h 138, ⟨fun _ => h 139, ⟨fun _ => h 140, ⟨fun _ => h 141, ⟨fun _ => h 142, ⟨fun _ => h 143, ⟨fun _ => h 144, ⟨fun _ => h 145, ⟨fun _ => h 146, ⟨fun _ => h 147, ⟨fun _ => h 148, ⟨fun _ => h 149, ⟨fun _ => h 150, ⟨fun _ => h 151, ⟨fun _ => h 152, ⟨fun _ => h 153, ⟨fun _ => h 154, ⟨fun _ => h 155, ⟨fun _ => h 156, ⟨fun _ => h 157, ⟨fun _ => h 158, ⟨fun _ => h 159, ⟨fun _ => h 160, ⟨fun _ => h 161, ⟨fun _ => h 162, ⟨fun _ => h 163, trivial⟩⟩⟩⟩⟩⟩⟩⟩⟩⟩⟩⟩⟩⟩⟩⟩⟩⟩⟩⟩⟩⟩⟩⟩⟩⟩⟩⟩⟩⟩⟩⟩⟩⟩⟩⟩⟩⟩⟩⟩⟩⟩⟩⟩⟩⟩⟩⟩⟩⟩⟩⟩⟩⟩⟩⟩⟩⟩⟩⟩⟩⟩⟩⟩⟩⟩⟩⟩⟩⟩⟩⟩⟩⟩⟩⟩⟩⟩⟩⟩⟩⟩⟩⟩⟩⟩⟩⟩⟩⟩⟩⟩⟩⟩⟩⟩⟩⟩⟩⟩⟩⟩⟩⟩⟩⟩⟩⟩⟩⟩⟩⟩⟩⟩⟩⟩⟩⟩⟩⟩⟩⟩⟩⟩⟩⟩⟩⟩⟩⟩⟩⟩⟩⟩⟩⟩⟩⟩⟩⟩⟩⟩⟩⟩⟩⟩⟩⟩⟩⟩⟩⟩⟩⟩⟩⟩⟩⟩⟩⟩⟩⟩⟩⟩
def hY (x : Acts) (n : Nat) : Nat → Option Ob := fun i => match i with
  | 0 => some (.fam x.F)
  | 1 => some (.cells (.rows n 3 x.row) 0)
  | _ => none
theorem hY_ok (x : Acts) (n : Nat) : Go.Cln.RowsIn (hY x n) := by
  intro b n' w' g t h
  unfold hY at h
  split at h
  · cases h
  · cases h; exact xrow_ok x
  · cases h
def sY (x : Acts) (n c k : Nat) (v : VF) : St := ⟨tmY v n c k, [], Tr.rebuild (hY x n) 10, 10, 2, [], fun _ => false, True, []⟩
theorem xEE (x : Acts) (n c k : Nat) (A B : Sd) (v : VF) (rd : Option Nat) : goT (KT rawN) (st HEE x n c k A B v) rd [F] Bx (st HEE x n c k A B (Vx v)) [0, 1, 2, 3, 4, 5, 6, 7, 8, 9] = some (.exit 0, True ∧ decide (nI k < nI n) = false, seenAsT Bx (st HEE x n c k A B (Vx v)) [0, 1, 2, 3, 4, 5, 6, 7, 8, 9] 10) := by kernel_rfl
theorem sxEE {x : Acts} {n c : Nat} {A B : Sd} {v : VF} (rd : Option Nat) (hv : ∀ i, DeadV (v i)) : Step Try.prog rd (sE x n c) lb (st HEE x n c n A B v) (fun e t => e = .exit 0 ∧ t = st HEE x n c n A B (Vx v)) :=
  Step.stdT (s0 := sE x n c) sr.pg (KT_ok rawN) (B := Bx) (g := HEE x n A B) (xEE x n c n A B v rd) ⟨trivial, by simp only [nI, decide_eq_false_iff_not]; omega⟩ (show 6 ≤ 10 by decide) (tm_dead (Vx_dead hv) (fun i hi => by unfold Bx; simp only [Bool.or_eq_true]; exact .inl (.inl (Nat.ble_eq_true_of_le (by omega))))) (hEE x n _ _) rfl (by kernel_rfl)
theorem yEE0 (x : Acts) (n c k : Nat) (A B : Sd) (v : VF) (rd : Option Nat) : goT (KT rawN) (st HEE x n c k A B v) rd [T, T, F, T, F, T] By (sY x n c k (Vy v)) [] = some (.ret, ((((((True ∧ decide (nI k < nI n) = true) ∧ (0 ≤ nI k ∧ nI k < nI n)) ∧ ((0 + k * 3) % 3 = 0 ∧ (0 + k * 3) / 3 < n)) ∧ x.tw (ix k) = false) ∧ decide (nI (x.m (ix k)) > 100) = true) ∧ True), seenAsT By (sY x n c k (Vy v)) [] 11) := by kernel_rfl
theorem syEE0 {x : Acts} {n c k : Nat} {A B : Sd} {v : VF} (rd : Option Nat) (hv : ∀ i, DeadV (v i)) (hk : k < n) (htw : x.tw (ix k) = false) (hm : 100 < x.m (ix k)) : Step Try.prog rd (sE x n c) lb (st HEE x n c k A B v) (fun e t => e = .ret ∧ t = sY x n c k (Vy v)) :=
  Step.stdT (s0 := sE x n c) sr.pg (KT_ok rawN) (B := By) (g := hY x n) (yEE0 x n c k A B v rd) ⟨⟨⟨⟨⟨⟨trivial, by simp only [nI, decide_eq_true_eq]; omega⟩, by simp only [nI]; omega⟩, by omega⟩, htw⟩, by simp only [nI, decide_eq_true_eq]; omega⟩, trivial⟩ (show 6 ≤ 10 by decide) (tmY_dead (Vy_dead hv) (fun i hi => by unfold By; simp only [Bool.or_eq_true]; exact .inl (.inl (Nat.ble_eq_true_of_le (by omega))))) (hY_ok x n) rfl (by kernel_rfl)
theorem yEE1 (x : Acts) (n c k : Nat) (A B : Sd) (v : VF) (rd : Option Nat) : goT (KT rawN) (st HEE x n c k A B v) rd [T, T, F, T, T, T] By (sY x n c k (Vy v)) [] = some (.ret, ((((((True ∧ decide (nI k < nI n) = true) ∧ (0 ≤ nI k ∧ nI k < nI n)) ∧ ((0 + k * 3) % 3 = 0 ∧ (0 + k * 3) / 3 < n)) ∧ x.tw (ix k) = true) ∧ decide (nI (x.m (ix k)) > 100) = true) ∧ True), seenAsT By (sY x n c k (Vy v)) [] 11) := by kernel_rfl
theorem syEE1 {x : Acts} {n c k : Nat} {A B : Sd} {v : VF} (rd : Option Nat) (hv : ∀ i, DeadV (v i)) (hk : k < n) (htw : x.tw (ix k) = true) (hm : 100 < x.m (ix k)) : Step Try.prog rd (sE x n c) lb (st HEE x n c k A B v) (fun e t => e = .ret ∧ t = sY x n c k (Vy v)) :=
  Step.stdT (s0 := sE x n c) sr.pg (KT_ok rawN) (B := By) (g := hY x n) (yEE1 x n c k A B v rd) ⟨⟨⟨⟨⟨⟨trivial, by simp only [nI, decide_eq_true_eq]; omega⟩, by simp only [nI]; omega⟩, by omega⟩, htw⟩, by simp only [nI, decide_eq_true_eq]; omega⟩, trivial⟩ (show 6 ≤ 10 by decide) (tmY_dead (Vy_dead hv) (fun i hi => by unfold By; simp only [Bool.or_eq_true]; exact .inl (.inl (Nat.ble_eq_true_of_le (by omega))))) (hY_ok x n) rfl (by kernel_rfl)
theorem xRE (x : Acts) (n c k : Nat) (A B : Sd) (v : VF) (rd : Option Nat) : goT (KT rawN) (st HRE x n c k A B v) rd [F] Bx (st HRE x n c k A B (Vx v)) [0, 1, 2, 3, 4, 5, 6, 7, 8, 9] = some (.exit 0, True ∧ decide (nI k < nI n) = false, seenAsT Bx (st HRE x n c k A B (Vx v)) [0, 1, 2, 3, 4, 5, 6, 7, 8, 9] 10) := by kernel_rfl
theorem sxRE {x : Acts} {n c : Nat} {A B : Sd} {v : VF} (rd : Option Nat) (hv : ∀ i, DeadV (v i)) : Step Try.prog rd (sE x n c) lb (st HRE x n c n A B v) (fun e t => e = .exit 0 ∧ t = st HRE x n c n A B (Vx v)) :=
  Step.stdT (s0 := sE x n c) sr.pg (KT_ok rawN) (B := Bx) (g := HRE x n A B) (xRE x n c n A B v rd) ⟨trivial, by simp only [nI, decide_eq_false_iff_not]; omega⟩ (show 6 ≤ 10 by decide) (tm_dead (Vx_dead hv) (fun i hi => by unfold Bx; simp only [Bool.or_eq_true]; exact .inl (.inl (Nat.ble_eq_true_of_le (by omega))))) (hRE x n _ _) rfl (by kernel_rfl)
theorem yRE0 (x : Acts) (n c k : Nat) (A B : Sd) (v : VF) (rd : Option Nat) : goT (KT rawN) (st HRE x n c k A B v) rd [T, T, F, T, F, T] By (sY x n c k (Vy v)) [] = some (.ret, ((((((True ∧ decide (nI k < nI n) = true) ∧ (0 ≤ nI k ∧ nI k < nI n)) ∧ ((0 + k * 3) % 3 = 0 ∧ (0 + k * 3) / 3 < n)) ∧ x.tw (ix k) = false) ∧ decide (nI (x.m (ix k)) > 100) = true) ∧ True), seenAsT By (sY x n c k (Vy v)) [] 11) := by kernel_rfl
theorem syRE0 {x : Acts} {n c k : Nat} {A B : Sd} {v : VF} (rd : Option Nat) (hv : ∀ i, DeadV (v i)) (hk : k < n) (htw : x.tw (ix k) = false) (hm : 100 < x.m (ix k)) : Step Try.prog rd (sE x n c) lb (st HRE x n c k A B v) (fun e t => e = .ret ∧ t = sY x n c k (Vy v)) :=
  Step.stdT (s0 := sE x n c) sr.pg (KT_ok rawN) (B := By) (g := hY x n) (yRE0 x n c k A B v rd) ⟨⟨⟨⟨⟨⟨trivial, by simp only [nI, decide_eq_true_eq]; omega⟩, by simp only [nI]; omega⟩, by omega⟩, htw⟩, by simp only [nI, decide_eq_true_eq]; omega⟩, trivial⟩ (show 6 ≤ 10 by decide) (tmY_dead (Vy_dead hv) (fun i hi => by unfold By; simp only [Bool.or_eq_true]; exact .inl (.inl (Nat.ble_eq_true_of_le (by omega))))) (hY_ok x n) rfl (by kernel_rfl)
theorem yRE1 (x : Acts) (n c k : Nat) (A B : Sd) (v : VF) (rd : Option Nat) : goT (KT rawN) (st HRE x n c k A B v) rd [T, T, F, T, T, T] By (sY x n c k (Vy v)) [] = some (.ret, ((((((True ∧ decide (nI k < nI n) = true) ∧ (0 ≤ nI k ∧ nI k < nI n)) ∧ ((0 + k * 3) % 3 = 0 ∧ (0 + k * 3) / 3 < n)) ∧ x.tw (ix k) = true) ∧ decide (nI (x.m (ix k)) > 100) = true) ∧ True), seenAsT By (sY x n c k (Vy v)) [] 11) := by kernel_rfl
theorem syRE1 {x : Acts} {n c k : Nat} {A B : Sd} {v : VF} (rd : Option Nat) (hv : ∀ i, DeadV (v i)) (hk : k < n) (htw : x.tw (ix k) = true) (hm : 100 < x.m (ix k)) : Step Try.prog rd (sE x n c) lb (st HRE x n c k A B v) (fun e t => e = .ret ∧ t = sY x n c k (Vy v)) :=
  Step.stdT (s0 := sE x n c) sr.pg (KT_ok rawN) (B := By) (g := hY x n) (yRE1 x n c k A B v rd) ⟨⟨⟨⟨⟨⟨trivial, by simp only [nI, decide_eq_true_eq]; omega⟩, by simp only [nI]; omega⟩, by omega⟩, htw⟩, by simp only [nI, decide_eq_true_eq]; omega⟩, trivial⟩ (show 6 ≤ 10 by decide) (tmY_dead (Vy_dead hv) (fun i hi => by unfold By; simp only [Bool.or_eq_true]; exact .inl (.inl (Nat.ble_eq_true_of_le (by omega))))) (hY_ok x n) rfl (by kernel_rfl)
theorem xER (x : Acts) (n c k : Nat) (A B : Sd) (v : VF) (rd : Option Nat) : goT (KT rawN) (st HER x n c k A B v) rd [F] Bx (st HER x n c k A B (Vx v)) [0, 1, 2, 3, 4, 5, 6, 7, 8, 9] = some (.exit 0, True ∧ decide (nI k < nI n) = false, seenAsT Bx (st HER x n c k A B (Vx v)) [0, 1, 2, 3, 4, 5, 6, 7, 8, 9] 10) := by kernel_rfl
theorem sxER {x : Acts} {n c : Nat} {A B : Sd} {v : VF} (rd : Option Nat) (hv : ∀ i, DeadV (v i)) : Step Try.prog rd (sE x n c) lb (st HER x n c n A B v) (fun e t => e = .exit 0 ∧ t = st HER x n c n A B (Vx v)) :=
  Step.stdT (s0 := sE x n c) sr.pg (KT_ok rawN) (B := Bx) (g := HER x n A B) (xER x n c n A B v rd) ⟨trivial, by simp only [nI, decide_eq_false_iff_not]; omega⟩ (show 6 ≤ 10 by decide) (tm_dead (Vx_dead hv) (fun i hi => by unfold Bx; simp only [Bool.or_eq_true]; exact .inl (.inl (Nat.ble_eq_true_of_le (by omega))))) (hER x n _ _) rfl (by kernel_rfl)
theorem yER0 (x : Acts) (n c k : Nat) (A B : Sd) (v : VF) (rd : Option Nat) : goT (KT rawN) (st HER x n c k A B v) rd [T, T, F, T, F, T] By (sY x n c k (Vy v)) [] = some (.ret, ((((((True ∧ decide (nI k < nI n) = true) ∧ (0 ≤ nI k ∧ nI k < nI n)) ∧ ((0 + k * 3) % 3 = 0 ∧ (0 + k * 3) / 3 < n)) ∧ x.tw (ix k) = false) ∧ decide (nI (x.m (ix k)) > 100) = true) ∧ True), seenAsT By (sY x n c k (Vy v)) [] 11) := by kernel_rfl
theorem syER0 {x : Acts} {n c k : Nat} {A B : Sd} {v : VF} (rd : Option Nat) (hv : ∀ i, DeadV (v i)) (hk : k < n) (htw : x.tw (ix k) = false) (hm : 100 < x.m (ix k)) : Step Try.prog rd (sE x n c) lb (st HER x n c k A B v) (fun e t => e = .ret ∧ t = sY x n c k (Vy v)) :=
  Step.stdT (s0 := sE x n c) sr.pg (KT_ok rawN) (B := By) (g := hY x n) (yER0 x n c k A B v rd) ⟨⟨⟨⟨⟨⟨trivial, by simp only [nI, decide_eq_true_eq]; omega⟩, by simp only [nI]; omega⟩, by omega⟩, htw⟩, by simp only [nI, decide_eq_true_eq]; omega⟩, trivial⟩ (show 6 ≤ 10 by decide) (tmY_dead (Vy_dead hv) (fun i hi => by unfold By; simp only [Bool.or_eq_true]; exact .inl (.inl (Nat.ble_eq_true_of_le (by omega))))) (hY_ok x n) rfl (by kernel_rfl)
theorem yER1 (x : Acts) (n c k : Nat) (A B : Sd) (v : VF) (rd : Option Nat) : goT (KT rawN) (st HER x n c k A B v) rd [T, T, F, T, T, T] By (sY x n c k (Vy v)) [] = some (.ret, ((((((True ∧ decide (nI k < nI n) = true) ∧ (0 ≤ nI k ∧ nI k < nI n)) ∧ ((0 + k * 3) % 3 = 0 ∧ (0 + k * 3) / 3 < n)) ∧ x.tw (ix k) = true) ∧ decide (nI (x.m (ix k)) > 100) = true) ∧ True), seenAsT By (sY x n c k (Vy v)) [] 11) := by kernel_rfl
theorem syER1 {x : Acts} {n c k : Nat} {A B : Sd} {v : VF} (rd : Option Nat) (hv : ∀ i, DeadV (v i)) (hk : k < n) (htw : x.tw (ix k) = true) (hm : 100 < x.m (ix k)) : Step Try.prog rd (sE x n c) lb (st HER x n c k A B v) (fun e t => e = .ret ∧ t = sY x n c k (Vy v)) :=
  Step.stdT (s0 := sE x n c) sr.pg (KT_ok rawN) (B := By) (g := hY x n) (yER1 x n c k A B v rd) ⟨⟨⟨⟨⟨⟨trivial, by simp only [nI, decide_eq_true_eq]; omega⟩, by simp only [nI]; omega⟩, by omega⟩, htw⟩, by simp only [nI, decide_eq_true_eq]; omega⟩, trivial⟩ (show 6 ≤ 10 by decide) (tmY_dead (Vy_dead hv) (fun i hi => by unfold By; simp only [Bool.or_eq_true]; exact .inl (.inl (Nat.ble_eq_true_of_le (by omega))))) (hY_ok x n) rfl (by kernel_rfl)
theorem xRR (x : Acts) (n c k : Nat) (A B : Sd) (v : VF) (rd : Option Nat) : goT (KT rawN) (st HRR x n c k A B v) rd [F] Bx (st HRR x n c k A B (Vx v)) [0, 1, 2, 3, 4, 5, 6, 7, 8, 9] = some (.exit 0, True ∧ decide (nI k < nI n) = false, seenAsT Bx (st HRR x n c k A B (Vx v)) [0, 1, 2, 3, 4, 5, 6, 7, 8, 9] 10) := by kernel_rfl
theorem sxRR {x : Acts} {n c : Nat} {A B : Sd} {v : VF} (rd : Option Nat) (hv : ∀ i, DeadV (v i)) : Step Try.prog rd (sE x n c) lb (st HRR x n c n A B v) (fun e t => e = .exit 0 ∧ t = st HRR x n c n A B (Vx v)) :=
  Step.stdT (s0 := sE x n c) sr.pg (KT_ok rawN) (B := Bx) (g := HRR x n A B) (xRR x n c n A B v rd) ⟨trivial, by simp only [nI, decide_eq_false_iff_not]; omega⟩ (show 6 ≤ 10 by decide) (tm_dead (Vx_dead hv) (fun i hi => by unfold Bx; simp only [Bool.or_eq_true]; exact .inl (.inl (Nat.ble_eq_true_of_le (by omega))))) (hRR x n _ _) rfl (by kernel_rfl)
theorem yRR0 (x : Acts) (n c k : Nat) (A B : Sd) (v : VF) (rd : Option Nat) : goT (KT rawN) (st HRR x n c k A B v) rd [T, T, F, T, F, T] By (sY x n c k (Vy v)) [] = some (.ret, ((((((True ∧ decide (nI k < nI n) = true) ∧ (0 ≤ nI k ∧ nI k < nI n)) ∧ ((0 + k * 3) % 3 = 0 ∧ (0 + k * 3) / 3 < n)) ∧ x.tw (ix k) = false) ∧ decide (nI (x.m (ix k)) > 100) = true) ∧ True), seenAsT By (sY x n c k (Vy v)) [] 11) := by kernel_rfl
theorem syRR0 {x : Acts} {n c k : Nat} {A B : Sd} {v : VF} (rd : Option Nat) (hv : ∀ i, DeadV (v i)) (hk : k < n) (htw : x.tw (ix k) = false) (hm : 100 < x.m (ix k)) : Step Try.prog rd (sE x n c) lb (st HRR x n c k A B v) (fun e t => e = .ret ∧ t = sY x n c k (Vy v)) :=
  Step.stdT (s0 := sE x n c) sr.pg (KT_ok rawN) (B := By) (g := hY x n) (yRR0 x n c k A B v rd) ⟨⟨⟨⟨⟨⟨trivial, by simp only [nI, decide_eq_true_eq]; omega⟩, by simp only [nI]; omega⟩, by omega⟩, htw⟩, by simp only [nI, decide_eq_true_eq]; omega⟩, trivial⟩ (show 6 ≤ 10 by decide) (tmY_dead (Vy_dead hv) (fun i hi => by unfold By; simp only [Bool.or_eq_true]; exact .inl (.inl (Nat.ble_eq_true_of_le (by omega))))) (hY_ok x n) rfl (by kernel_rfl)
theorem yRR1 (x : Acts) (n c k : Nat) (A B : Sd) (v : VF) (rd : Option Nat) : goT (KT rawN) (st HRR x n c k A B v) rd [T, T, F, T, T, T] By (sY x n c k (Vy v)) [] = some (.ret, ((((((True ∧ decide (nI k < nI n) = true) ∧ (0 ≤ nI k ∧ nI k < nI n)) ∧ ((0 + k * 3) % 3 = 0 ∧ (0 + k * 3) / 3 < n)) ∧ x.tw (ix k) = true) ∧ decide (nI (x.m (ix k)) > 100) = true) ∧ True), seenAsT By (sY x n c k (Vy v)) [] 11) := by kernel_rfl
theorem syRR1 {x : Acts} {n c k : Nat} {A B : Sd} {v : VF} (rd : Option Nat) (hv : ∀ i, DeadV (v i)) (hk : k < n) (htw : x.tw (ix k) = true) (hm : 100 < x.m (ix k)) : Step Try.prog rd (sE x n c) lb (st HRR x n c k A B v) (fun e t => e = .ret ∧ t = sY x n c k (Vy v)) :=
  Step.stdT (s0 := sE x n c) sr.pg (KT_ok rawN) (B := By) (g := hY x n) (yRR1 x n c k A B v rd) ⟨⟨⟨⟨⟨⟨trivial, by simp only [nI, decide_eq_true_eq]; omega⟩, by simp only [nI]; omega⟩, by omega⟩, htw⟩, by simp only [nI, decide_eq_true_eq]; omega⟩, trivial⟩ (show 6 ≤ 10 by decide) (tmY_dead (Vy_dead hv) (fun i hi => by unfold By; simp only [Bool.or_eq_true]; exact .inl (.inl (Nat.ble_eq_true_of_le (by omega))))) (hY_ok x n) rfl (by kernel_rfl)
theorem xSS (x : Acts) (n c k : Nat) (A B : Sd) (v : VF) (rd : Option Nat) : goT (KT rawN) (st HSS x n c k A B v) rd [F] Bx (st HSS x n c k A B (Vx v)) [0, 1, 2, 3, 4, 5, 6, 7, 8, 9] = some (.exit 0, True ∧ decide (nI k < nI n) = false, seenAsT Bx (st HSS x n c k A B (Vx v)) [0, 1, 2, 3, 4, 5, 6, 7, 8, 9] 10) := by kernel_rfl
theorem sxSS {x : Acts} {n c : Nat} {A B : Sd} {v : VF} (rd : Option Nat) (hv : ∀ i, DeadV (v i)) : Step Try.prog rd (sE x n c) lb (st HSS x n c n A B v) (fun e t => e = .exit 0 ∧ t = st HSS x n c n A B (Vx v)) :=
  Step.stdT (s0 := sE x n c) sr.pg (KT_ok rawN) (B := Bx) (g := HSS x n A B) (xSS x n c n A B v rd) ⟨trivial, by simp only [nI, decide_eq_false_iff_not]; omega⟩ (show 6 ≤ 10 by decide) (tm_dead (Vx_dead hv) (fun i hi => by unfold Bx; simp only [Bool.or_eq_true]; exact .inl (.inl (Nat.ble_eq_true_of_le (by omega))))) (hSS x n _ _) rfl (by kernel_rfl)
theorem ySS0 (x : Acts) (n c k : Nat) (A B : Sd) (v : VF) (rd : Option Nat) : goT (KT rawN) (st HSS x n c k A B v) rd [T, T, F, T, F, T] By (sY x n c k (Vy v)) [] = some (.ret, ((((((True ∧ decide (nI k < nI n) = true) ∧ (0 ≤ nI k ∧ nI k < nI n)) ∧ ((0 + k * 3) % 3 = 0 ∧ (0 + k * 3) / 3 < n)) ∧ x.tw (ix k) = false) ∧ decide (nI (x.m (ix k)) > 100) = true) ∧ True), seenAsT By (sY x n c k (Vy v)) [] 11) := by kernel_rfl
theorem sySS0 {x : Acts} {n c k : Nat} {A B : Sd} {v : VF} (rd : Option Nat) (hv : ∀ i, DeadV (v i)) (hk : k < n) (htw : x.tw (ix k) = false) (hm : 100 < x.m (ix k)) : Step Try.prog rd (sE x n c) lb (st HSS x n c k A B v) (fun e t => e = .ret ∧ t = sY x n c k (Vy v)) :=
  Step.stdT (s0 := sE x n c) sr.pg (KT_ok rawN) (B := By) (g := hY x n) (ySS0 x n c k A B v rd) ⟨⟨⟨⟨⟨⟨trivial, by simp only [nI, decide_eq_true_eq]; omega⟩, by simp only [nI]; omega⟩, by omega⟩, htw⟩, by simp only [nI, decide_eq_true_eq]; omega⟩, trivial⟩ (show 6 ≤ 10 by decide) (tmY_dead (Vy_dead hv) (fun i hi => by unfold By; simp only [Bool.or_eq_true]; exact .inl (.inl (Nat.ble_eq_true_of_le (by omega))))) (hY_ok x n) rfl (by kernel_rfl)
theorem ySS1 (x : Acts) (n c k : Nat) (A B : Sd) (v : VF) (rd : Option Nat) : goT (KT rawN) (st HSS x n c k A B v) rd [T, T, F, T, T, T] By (sY x n c k (Vy v)) [] = some (.ret, ((((((True ∧ decide (nI k < nI n) = true) ∧ (0 ≤ nI k ∧ nI k < nI n)) ∧ ((0 + k * 3) % 3 = 0 ∧ (0 + k * 3) / 3 < n)) ∧ x.tw (ix k) = true) ∧ decide (nI (x.m (ix k)) > 100) = true) ∧ True), seenAsT By (sY x n c k (Vy v)) [] 11) := by kernel_rfl
theorem sySS1 {x : Acts} {n c k : Nat} {A B : Sd} {v : VF} (rd : Option Nat) (hv : ∀ i, DeadV (v i)) (hk : k < n) (htw : x.tw (ix k) = true) (hm : 100 < x.m (ix k)) : Step Try.prog rd (sE x n c) lb (st HSS x n c k A B v) (fun e t => e = .ret ∧ t = sY x n c k (Vy v)) :=
  Step.stdT (s0 := sE x n c) sr.pg (KT_ok rawN) (B := By) (g := hY x n) (ySS1 x n c k A B v rd) ⟨⟨⟨⟨⟨⟨trivial, by simp only [nI, decide_eq_true_eq]; omega⟩, by simp only [nI]; omega⟩, by omega⟩, htw⟩, by simp only [nI, decide_eq_true_eq]; omega⟩, trivial⟩ (show 6 ≤ 10 by decide) (tmY_dead (Vy_dead hv) (fun i hi => by unfold By; simp only [Bool.or_eq_true]; exact .inl (.inl (Nat.ble_eq_true_of_le (by omega))))) (hY_ok x n) rfl (by kernel_rfl)
/-- the first picture -/
def v0 : VF := fun i => match (Nat.ble 11 i && Nat.ble i 13) || (Nat.ble 15 i && Nat.ble i 17) with
  | true => junk
  | false => undef
theorem v0_dead (i : Nat) : DeadV (v0 i) := by
  unfold v0
  split
  · exact DeadV.junk
  · exact DeadV.undef
def z0 : Sd := ⟨0, 0, [], 0, 0⟩
def nulS : Value := .slice none 0 0
def hN (x : Acts) (n : Nat) : Nat → Option Ob := HH x n z0 z0 nulS nulS none none
def sN (x : Acts) (n c : Nat) : St := ⟨tm v0 n c 0, [], Tr.rebuild (hN x n) 10, 10, 2, [], fun _ => false, True, []⟩
theorem seeE (x : Acts) (n c : Nat) : seenInT (fun _ => true) (sE x n c) (sN x n c) [0, 1, 2, 3, 4, 5, 2, 3, 8, 9] = seenAsT (fun _ => true) (sN x n c) [0, 1, 2, 3, 4, 5, 2, 3, 8, 9] 6 := by kernel_rfl
theorem viewE (x : Acts) (n c : Nat) : ViewM (sE x n c) (sE x n c) (sN x n c) (nm [0, 1, 2, 3, 4, 5, 2, 3, 8, 9]) :=
  ViewM.stdT (f := hN x n) (tm_dead v0_dead (fun _ _ => rfl)) (HH_ok (.inl rfl) (.inl rfl)) rfl (by kernel_rfl) (seeE x n c)
theorem startE {x : Acts} {n c : Nat} {rd : Option Nat} {Q : Exit → St → Prop} (h : Step Try.prog rd (sE x n c) lb (st HEE x n c 0 z0 z0 v0) Q) : Step Try.prog rd (sE x n c) lb (sE x n c) Q :=
  Step.viewM (viewE x n c) (Step.weak (wk_HH (.inr ⟨rfl, none, rfl⟩) (.inr ⟨rfl, none, rfl⟩)) h)
theorem good0 (x : Acts) (n c : Nat) : Good x n c 0 (st HEE x n c 0 z0 z0 v0) := by
  have h : Side z0 [] (100 * 0) := ⟨rfl, rfl, (fun _ h => by cases h), Nat.le_refl _⟩
  exact gEE v0_dead h h
/-- a round -/
theorem round {x : Acts} {n c k : Nat} {t : St} (h : At x n k) (g : Good x n c k t) : ∃ tz, Good x n c (k + 1) tz ∧ ∀ rd, Step Try.prog rd (sE x n c) lb t (fun e s => e = .normal ∧ s = tz) := by
  obtain ⟨A, B, M, N, v, hv, hA, hB, g⟩ := g
  rcases g with ⟨rfl, rfl, rfl⟩ | ⟨fA, rfl, rfl⟩ | ⟨rfl, fB, rfl⟩ | ⟨fA, fB, rfl⟩ | ⟨fA, rfl, rfl⟩
  · cases htw : x.tw (ix k) with
    | false =>
      by_cases hw0 : x.wh (ix k) = 0
      · by_cases h0 : x.m (ix k) = 0
        · exact qEEw00 (M := []) (N := []) h hv hA hB htw hw0 h0
        · exact qEEw10 (M := []) (N := []) h hv hA hB htw hw0 h0
      · by_cases hw1 : x.wh (ix k) = 1
        · exact qEEs0 (M := []) (N := []) h hv hA hB htw hw0 hw1
        · exact qEEc0 (M := []) (N := []) h hv hA hB htw hw0 hw1
    | true =>
      by_cases hw0 : x.wh (ix k) = 0
      · by_cases h0 : x.m (ix k) = 0
        · exact qEEw01 (M := []) (N := []) h hv hA hB htw hw0 h0
        · exact qEEw11 (M := []) (N := []) h hv hA hB htw hw0 h0
      · by_cases hw1 : x.wh (ix k) = 1
        · exact qEEs1 (M := []) (N := []) h hv hA hB htw hw0 hw1
        · exact qEEc1 (M := []) (N := []) h hv hA hB htw hw0 hw1
  · cases htw : x.tw (ix k) with
    | false =>
      by_cases hw0 : x.wh (ix k) = 0
      · by_cases h0 : x.m (ix k) = 0
        · exact qREw00 (N := []) h hv hA hB fA htw hw0 h0
        · exact qREw10 (N := []) h hv hA hB fA htw hw0 h0
      · by_cases hw1 : x.wh (ix k) = 1
        · exact qREs0 (N := []) h hv hA hB fA htw hw0 hw1
        · exact qREc0 (N := []) h hv hA hB fA htw hw0 hw1
    | true =>
      by_cases hw0 : x.wh (ix k) = 0
      · by_cases h0 : x.m (ix k) = 0
        · exact qREw01 (N := []) h hv hA hB fA htw hw0 h0
        · exact qREw11 (N := []) h hv hA hB fA htw hw0 h0
      · by_cases hw1 : x.wh (ix k) = 1
        · exact qREs1 (N := []) h hv hA hB fA htw hw0 hw1
        · exact qREc1 (N := []) h hv hA hB fA htw hw0 hw1
  · cases htw : x.tw (ix k) with
    | false =>
      by_cases hw0 : x.wh (ix k) = 0
      · by_cases h0 : x.m (ix k) = 0
        · exact qERw00 (M := []) h hv hA hB fB htw hw0 h0
        · exact qERw10 (M := []) h hv hA hB fB htw hw0 h0
      · by_cases hw1 : x.wh (ix k) = 1
        · exact qERs0 (M := []) h hv hA hB fB htw hw0 hw1
        · exact qERc0 (M := []) h hv hA hB fB htw hw0 hw1
    | true =>
      by_cases hw0 : x.wh (ix k) = 0
      · by_cases h0 : x.m (ix k) = 0
        · exact qERw01 (M := []) h hv hA hB fB htw hw0 h0
        · exact qERw11 (M := []) h hv hA hB fB htw hw0 h0
      · by_cases hw1 : x.wh (ix k) = 1
        · exact qERs1 (M := []) h hv hA hB fB htw hw0 hw1
        · exact qERc1 (M := []) h hv hA hB fB htw hw0 hw1
  · cases htw : x.tw (ix k) with
    | false =>
      by_cases hw0 : x.wh (ix k) = 0
      · by_cases h0 : x.m (ix k) = 0
        · exact qRRw00 h hv hA hB fA fB htw hw0 h0
        · exact qRRw10 h hv hA hB fA fB htw hw0 h0
      · by_cases hw1 : x.wh (ix k) = 1
        · exact qRRs0 h hv hA hB fA fB htw hw0 hw1
        · exact qRRc0 h hv hA hB fA fB htw hw0 hw1
    | true =>
      by_cases hw0 : x.wh (ix k) = 0
      · by_cases h0 : x.m (ix k) = 0
        · exact qRRw01 h hv hA hB fA fB htw hw0 h0
        · exact qRRw11 h hv hA hB fA fB htw hw0 h0
      · by_cases hw1 : x.wh (ix k) = 1
        · exact qRRs1 h hv hA hB fA fB htw hw0 hw1
        · exact qRRc1 h hv hA hB fA fB htw hw0 hw1
  · cases htw : x.tw (ix k) with
    | false =>
      by_cases hw0 : x.wh (ix k) = 0
      · by_cases h0 : x.m (ix k) = 0
        · exact qSSw00 (N := []) h hv hA hB fA htw hw0 h0
        · exact qSSw10 (N := []) h hv hA hB fA htw hw0 h0
      · by_cases hw1 : x.wh (ix k) = 1
        · exact qSSs0 (N := []) h hv hA hB fA htw hw0 hw1
        · exact qSSc0 (N := []) h hv hA hB fA htw hw0 hw1
    | true =>
      by_cases hw0 : x.wh (ix k) = 0
      · by_cases h0 : x.m (ix k) = 0
        · exact qSSw01 (N := []) h hv hA hB fA htw hw0 h0
        · exact qSSw11 (N := []) h hv hA hB fA htw hw0 h0
      · by_cases hw1 : x.wh (ix k) = 1
        · exact qSSs1 (N := []) h hv hA hB fA htw hw0 hw1
        · exact qSSc1 (N := []) h hv hA hB fA htw hw0 hw1
theorem exitX {x : Acts} {n c : Nat} {t : St} (g : Good x n c n t) : ∃ tz, Good x n c n tz ∧ ∀ rd, Step Try.prog rd (sE x n c) lb t (fun e s => e = .exit 0 ∧ s = tz) := by
  obtain ⟨A, B, M, N, v, hv, hA, hB, g⟩ := g
  rcases g with ⟨rfl, rfl, rfl⟩ | ⟨fA, rfl, rfl⟩ | ⟨rfl, fB, rfl⟩ | ⟨fA, fB, rfl⟩ | ⟨fA, rfl, rfl⟩
  · exact ⟨_, gEE (Vx_dead hv) hA hB, fun rd => sxEE rd hv⟩
  · exact ⟨_, gRE (Vx_dead hv) hA fA hB, fun rd => sxRE rd hv⟩
  · exact ⟨_, gER (Vx_dead hv) hA hB fB, fun rd => sxER rd hv⟩
  · exact ⟨_, gRR (Vx_dead hv) hA fA hB fB, fun rd => sxRR rd hv⟩
  · exact ⟨_, gSS (Vx_dead hv) hA fA hB, fun rd => sxSS rd hv⟩
theorem longX {x : Acts} {n c k : Nat} {t : St} (hk : k < n) (hm : 100 < x.m (ix k)) (g : Good x n c k t) : ∃ v, ∀ rd, Step Try.prog rd (sE x n c) lb t (fun e s => e = .ret ∧ s = sY x n c k v) := by
  obtain ⟨A, B, M, N, v, hv, hA, hB, g⟩ := g
  refine ⟨Vy v, fun rd => ?_⟩
  rcases g with ⟨rfl, rfl, rfl⟩ | ⟨fA, rfl, rfl⟩ | ⟨rfl, fB, rfl⟩ | ⟨fA, fB, rfl⟩ | ⟨fA, rfl, rfl⟩ <;> cases htw : x.tw (ix k)
  · exact syEE0 rd hv hk htw hm
  · exact syEE1 rd hv hk htw hm
  · exact syRE0 rd hv hk htw hm
  · exact syRE1 rd hv hk htw hm
  · exact syER0 rd hv hk htw hm
  · exact syER1 rd hv hk htw hm
  · exact syRR0 rd hv hk htw hm
  · exact syRR1 rd hv hk htw hm
  · exact sySS0 rd hv hk htw hm
  · exact sySS1 rd hv hk htw hm
/-- so many rounds -/
theorem rounds {x : Acts} {n c : Nat} (K : Nat) (h : ∀ k, k < K → At x n k) : ∃ q : Nat → St, q 0 = st HEE x n c 0 z0 z0 v0 ∧ (∀ k, k ≤ K → Good x n c k (q k)) ∧ ∀ k, k < K → ∀ rd, Step Try.prog rd (sE x n c) lb (q k) (fun e s => e = .normal ∧ s = q (k + 1)) := by
  induction K with
  | zero => exact ⟨fun _ => st HEE x n c 0 z0 z0 v0, rfl, fun k hk => (by obtain rfl : k = 0 := (by omega); exact good0 x n c), fun k hk => (by omega)⟩
  | succ K ih =>
    obtain ⟨q, h0, h1, h2⟩ := ih fun k hk => h k (by omega)
    obtain ⟨tz, g1, g2⟩ := round (h K (by omega)) (h1 K (Nat.le_refl _))
    refine ⟨fun i => if i ≤ K then q i else tz, (by show (if 0 ≤ K then q 0 else tz) = _; rw [if_pos (Nat.zero_le _)]; exact h0), fun k hk => ?_, fun k hk rd => ?_⟩
    · by_cases e : k ≤ K
      · simp only [if_pos e]; exact h1 k e
      · obtain rfl : k = K + 1 := by omega
        simp only [if_neg e]; exact g1
    · by_cases e : k = K
      · subst e
        simp only [if_pos (Nat.le_refl k), if_neg (show ¬ k + 1 ≤ k by omega)]; exact g2 rd
      · simp only [if_pos (show k ≤ K by omega), if_pos (show k + 1 ≤ K by omega)]; exact h2 k (by omega) rd
theorem loopG {x : Acts} {n c : Nat} (K : Nat) (h : ∀ k, k < K → At x n k) (e : Exit) (hne : e ≠ .normal) (T : St → Prop) (hend : ∀ t, Good x n c K t → ∃ tz, T tz ∧ ∀ rd, Step Try.prog rd (sE x n c) lb t (fun e' s => e' = e ∧ s = tz)) :
    ∃ tz, T tz ∧ ∀ rd, CodeOk Try.prog rd (.loop lb) (sE x n c) e tz := by
  obtain ⟨q, h0, h1, h2⟩ := rounds (c := c) K h
  obtain ⟨tz, g1, g2⟩ := hend (q K) (h1 K (Nat.le_refl _))
  refine ⟨tz, g1, fun rd => CodeOk.of_step (Step.loop (fun g t => (g = K + 1 ∧ t = sE x n c) ∨ ∃ j, 1 ≤ j ∧ j ≤ K ∧ g = K - j ∧ t = q j) ?_ (K + 1) _ (.inl ⟨rfl, rfl⟩))⟩
  have key : ∀ j, j ≤ K → Step Try.prog rd (sE x n c) lb (q j) (fun e' s' => (e' = .normal ∧ ∃ j', j' = j + 1 ∧ j' ≤ K ∧ s' = q j') ∨ (e' ≠ .normal ∧ e' = e ∧ s' = tz)) := fun j hj => by
    by_cases hjK : j = K
    · subst hjK
      refine (g2 rd).mono ?_
      rintro e' s ⟨rfl, rfl⟩
      exact .inr ⟨hne, rfl, rfl⟩
    · refine (h2 j (by omega) rd).mono ?_
      rintro e' s ⟨rfl, rfl⟩
      exact .inl ⟨rfl, j + 1, rfl, by omega, rfl⟩
  rintro g t (⟨rfl, rfl⟩ | ⟨j, j1, j2, rfl, rfl⟩)
  · refine startE ?_
    rw [← h0]
    refine (key 0 (Nat.zero_le _)).mono ?_
    rintro e' s (⟨rfl, j', rfl, hj, rfl⟩ | ⟨a, rfl, rfl⟩)
    · exact .inl ⟨rfl, K - 1, by omega, .inr ⟨0 + 1, by omega, hj, by omega, rfl⟩⟩
    · exact .inr ⟨a, rfl, rfl⟩
  · refine (key j j2).mono ?_
    rintro e' s (⟨rfl, j', rfl, hj, rfl⟩ | ⟨a, rfl, rfl⟩)
    · exact .inl ⟨rfl, K - (j + 1), by omega, .inr ⟨j + 1, by omega, hj, rfl, rfl⟩⟩
    · exact .inr ⟨a, rfl, rfl⟩
theorem loopX {x : Acts} {n c : Nat} (ox : x.Ok n) (hn : n ≤ 30) (hm : ∀ i, i < n → x.m i ≤ 100) : ∃ tz, Good x n c n tz ∧ ∀ rd, CodeOk Try.prog rd (.loop lb) (sE x n c) (.exit 0) tz :=
  loopG n (fun k hk => At.of ox hk hn (hm k hk)) _ (by intro h; cases h) (Good x n c n) fun t g => exitX g
theorem loopY {x : Acts} {n c k : Nat} (ox : x.Ok n) (hn : n ≤ 30) (hk : k < n) (hm : ∀ i, i < k → x.m i ≤ 100) (hb : 100 < x.m k) : ∃ tz, (∃ v, tz = sY x n c k v) ∧ ∀ rd, CodeOk Try.prog rd (.loop lb) (sE x n c) .ret tz :=
  loopG k (fun j hj => At.of ox (by omega) hn (hm j hj)) _ (by intro h; cases h) (fun t => ∃ v, t = sY x n c k v) fun t g => by
    obtain ⟨v, hv⟩ := longX hk (by rw [ix_eq]; exact hb) g
    exact ⟨_, ⟨v, rfl⟩, hv⟩
end
end sp
end Go.Proofs.Yteknepfcbpoooab
namespace Go.Proofs.Yteknepfcbpoooab
open Go.ChangeShapes Go.WideShapes Go.ChangeAt Go.RowKit Go.Cln
namespace sp
open sd
open pa (rawN)
open pc (RT)
set_option linter.unusedVariables false
noncomputable section
def askL (e : Exit) (X : St) (f : FuncId) (c : Code) (s : Go.Cln.St) : Option Ask2 := if f == 7 then some ⟨fr0, e, fun _ => X⟩ else none
def KX (R : RT) (e : Exit) (X : St) : Given := Given.asking2 (KT R) Try.prog (askL e X)
theorem KX_ok (R : RT) (e : Exit) (X : St) : GivenOk Try.prog (KX R e X) := (KT_ok R).asking2 _
def call7 (x : Acts) (K : Given) (n c : Nat) (o : List (Option Bool)) : Option (Value × Prop) := ((mk Try.prog K 300).call 7 [S n c] (smSt 2 (x.heap n) o)).map (fun r => (r.1, r.2.obl))
def LEE (x : Acts) (n c k : Nat) (A B : Sd) (v : VF) (R : RT) : Prop := (((((((((((((((((((((True ∧ decide (nI n > 30) = false) ∧ (∀ rd, CodeOk Try.prog rd (.loop lb) (sE x n c) (.exit 0) (st HEE x n c k A B v))) ∧ (0 ≤ A.t ∧ A.t < 18446744073709551616)) ∧ R = rawN) ∧ (sc.car A.t == R []) = true) ∧ (sc.car A.t == R []) = true) ∧ (sc.car A.t == R []) = true) ∧ (sc.car A.t == R []) = true) ∧ (sc.car A.t == R []) = true) ∧ (sc.car A.t == R []) = true) ∧ (0 ≤ B.t ∧ B.t < 18446744073709551616)) ∧ (sc.car A.t == R []) = true) ∧ R = rawN) ∧ (sc.car A.t == R []) = true) ∧ (sc.car A.t == R []) = true) ∧ (sc.car B.t == R []) = true) ∧ (sc.car B.t == R []) = true) ∧ (sc.car B.t == R []) = true) ∧ (sc.car B.t == R []) = true) ∧ (sc.car B.t == R []) = true) ∧ True)
theorem lawEE (x : Acts) (n c k : Nat) (A B : Sd) (v : VF) (R : RT) : call7 x (KX R (.exit 0) (st HEE x n c k A B v)) n c [F, none, none, none, none, none, none, none, none, none, T, T, none, T, T, none, T, T, none, none, none, none, none, none, none, T, T, T, T, T, none, none, none, none, none, none, none, T, T, T] = some (.bool true, LEE x n c k A B v R) := by kernel_rfl
def LRE (x : Acts) (n c k : Nat) (A B : Sd) (v : VF) (R : RT) : Prop := (((((((((((((((((((((True ∧ decide (nI n > 30) = false) ∧ (∀ rd, CodeOk Try.prog rd (.loop lb) (sE x n c) (.exit 0) (st HRE x n c k A B v))) ∧ (0 ≤ A.t ∧ A.t < 18446744073709551616)) ∧ q13 R (m1 A) A.a) ∧ (sc.car A.t == R (m1 A)) = true) ∧ (sc.car A.t == R (m1 A)) = true) ∧ (sc.car A.t == R (m1 A)) = true) ∧ (sc.car A.t == R (m1 A)) = true) ∧ (sc.car A.t == R (m1 A)) = true) ∧ (sc.car A.t == R (m1 A)) = true) ∧ (0 ≤ B.t ∧ B.t < 18446744073709551616)) ∧ (sc.car A.t == R (m1 A)) = true) ∧ R = rawN) ∧ (sc.car A.t == R (m1 A)) = true) ∧ (sc.car A.t == R (m1 A)) = true) ∧ (sc.car B.t == R []) = true) ∧ (sc.car B.t == R []) = true) ∧ (sc.car B.t == R []) = true) ∧ (sc.car B.t == R []) = true) ∧ (sc.car B.t == R []) = true) ∧ True)
theorem lawRE (x : Acts) (n c k : Nat) (A B : Sd) (v : VF) (R : RT) : call7 x (KX R (.exit 0) (st HRE x n c k A B v)) n c [F, none, none, none, none, none, none, none, none, none, T, T, none, T, T, none, T, T, none, none, none, none, none, none, none, T, T, T, T, T, none, none, none, none, none, none, none, T, T, T] = some (.bool true, LRE x n c k A B v R) := by kernel_rfl
def LER (x : Acts) (n c k : Nat) (A B : Sd) (v : VF) (R : RT) : Prop := (((((((((((((((((((((True ∧ decide (nI n > 30) = false) ∧ (∀ rd, CodeOk Try.prog rd (.loop lb) (sE x n c) (.exit 0) (st HER x n c k A B v))) ∧ (0 ≤ A.t ∧ A.t < 18446744073709551616)) ∧ R = rawN) ∧ (sc.car A.t == R []) = true) ∧ (sc.car A.t == R []) = true) ∧ (sc.car A.t == R []) = true) ∧ (sc.car A.t == R []) = true) ∧ (sc.car A.t == R []) = true) ∧ (sc.car A.t == R []) = true) ∧ (0 ≤ B.t ∧ B.t < 18446744073709551616)) ∧ (sc.car A.t == R []) = true) ∧ q13 R (m1 B) B.a) ∧ (sc.car A.t == R []) = true) ∧ (sc.car A.t == R []) = true) ∧ (sc.car B.t == R (m1 B)) = true) ∧ (sc.car B.t == R (m1 B)) = true) ∧ (sc.car B.t == R (m1 B)) = true) ∧ (sc.car B.t == R (m1 B)) = true) ∧ (sc.car B.t == R (m1 B)) = true) ∧ True)
theorem lawER (x : Acts) (n c k : Nat) (A B : Sd) (v : VF) (R : RT) : call7 x (KX R (.exit 0) (st HER x n c k A B v)) n c [F, none, none, none, none, none, none, none, none, none, T, T, none, T, T, none, T, T, none, none, none, none, none, none, none, T, T, T, T, T, none, none, none, none, none, none, none, T, T, T] = some (.bool true, LER x n c k A B v R) := by kernel_rfl
def LRR (x : Acts) (n c k : Nat) (A B : Sd) (v : VF) (R : RT) : Prop := (((((((((((((((((((((True ∧ decide (nI n > 30) = false) ∧ (∀ rd, CodeOk Try.prog rd (.loop lb) (sE x n c) (.exit 0) (st HRR x n c k A B v))) ∧ (0 ≤ A.t ∧ A.t < 18446744073709551616)) ∧ q13 R (m1 A) A.a) ∧ (sc.car A.t == R (m1 A)) = true) ∧ (sc.car A.t == R (m1 A)) = true) ∧ (sc.car A.t == R (m1 A)) = true) ∧ (sc.car A.t == R (m1 A)) = true) ∧ (sc.car A.t == R (m1 A)) = true) ∧ (sc.car A.t == R (m1 A)) = true) ∧ (0 ≤ B.t ∧ B.t < 18446744073709551616)) ∧ (sc.car A.t == R (m1 A)) = true) ∧ q13 R (m1 B) B.a) ∧ (sc.car A.t == R (m1 A)) = true) ∧ (sc.car A.t == R (m1 A)) = true) ∧ (sc.car B.t == R (m1 B)) = true) ∧ (sc.car B.t == R (m1 B)) = true) ∧ (sc.car B.t == R (m1 B)) = true) ∧ (sc.car B.t == R (m1 B)) = true) ∧ (sc.car B.t == R (m1 B)) = true) ∧ True)
theorem lawRR (x : Acts) (n c k : Nat) (A B : Sd) (v : VF) (R : RT) : call7 x (KX R (.exit 0) (st HRR x n c k A B v)) n c [F, none, none, none, none, none, none, none, none, none, T, T, none, T, T, none, T, T, none, none, none, none, none, none, none, T, T, T, T, T, none, none, none, none, none, none, none, T, T, T] = some (.bool true, LRR x n c k A B v R) := by kernel_rfl
def LSS (x : Acts) (n c k : Nat) (A B : Sd) (v : VF) (R : RT) : Prop := (((((((((((((((((((((True ∧ decide (nI n > 30) = false) ∧ (∀ rd, CodeOk Try.prog rd (.loop lb) (sE x n c) (.exit 0) (st HSS x n c k A B v))) ∧ (0 ≤ A.t ∧ A.t < 18446744073709551616)) ∧ q13 R (m1 A) A.a) ∧ (sc.car A.t == R (m1 A)) = true) ∧ (sc.car A.t == R (m1 A)) = true) ∧ (sc.car A.t == R (m1 A)) = true) ∧ (sc.car A.t == R (m1 A)) = true) ∧ (sc.car A.t == R (m1 A)) = true) ∧ (sc.car A.t == R (m1 A)) = true) ∧ (0 ≤ B.t ∧ B.t < 18446744073709551616)) ∧ (sc.car A.t == R (m1 A)) = true) ∧ q13 R (m1 A) A.a) ∧ (sc.car A.t == R (m1 A)) = true) ∧ (sc.car A.t == R (m1 A)) = true) ∧ (sc.car B.t == R (m1 A)) = true) ∧ (sc.car B.t == R (m1 A)) = true) ∧ (sc.car B.t == R (m1 A)) = true) ∧ (sc.car B.t == R (m1 A)) = true) ∧ (sc.car B.t == R (m1 A)) = true) ∧ True)
theorem lawSS (x : Acts) (n c k : Nat) (A B : Sd) (v : VF) (R : RT) : call7 x (KX R (.exit 0) (st HSS x n c k A B v)) n c [F, none, none, none, none, none, none, none, none, none, T, T, none, T, T, none, T, T, none, none, none, none, none, none, none, T, T, T, T, T, none, none, none, none, none, none, none, T, T, T] = some (.bool true, LSS x n c k A B v R) := by kernel_rfl
theorem lawY (x : Acts) (n c k : Nat) (v : VF) (R : RT) : call7 x (KX R .ret (sY x n c k v)) n c [F] = some (.bool true, (True ∧ decide (nI n > 30) = false) ∧ ∀ rd, CodeOk Try.prog rd (.loop lb) (sE x n c) .ret (sY x n c k v)) := by kernel_rfl
theorem lawBig (x : Acts) (n c : Nat) (R : RT) : call7 x (KT R) n c [T] = some (.bool true, (True ∧ decide (nI n > 30) = true) ∧ True) := by kernel_rfl
end
end sp
end Go.Proofs.Yteknepfcbpoooab
namespace Go.Proofs.Yteknepfcbpoooab
open Go.ChangeShapes Go.WideShapes Go.ChangeAt Go.RowKit Go.Cln
namespace sp
open sd
open pa (rawN)
open pc (RT)
set_option linter.unusedVariables false
noncomputable section
def K1 : Given := Given.frames Given.nothing pc.F11
theorem K1_ok : GivenOk Try.prog K1 := (GivenOk.nothing _).frames pc.F11_ok
theorem runZn : ((mk Try.prog K1 300).call 7 [.slice none 0 0] (St.start 0 .leaf [])).map (fun r => (r.1, r.2.obl)) = some (.bool true, True ∧ True) := by kernel_rfl
theorem runZz (c : Nat) : ((mk Try.prog K1 300).call 7 [.slice (some ⟨0, 0, none⟩) 0 c] (St.start 1 .leaf [])).map (fun r => (r.1, r.2.obl)) = some (.bool true, True ∧ True) := by kernel_rfl
theorem cE_of {A O : Sd} {M : List Int} {K : Nat} (h : Side A M K) (e : m1 O = M) : (sc.car A.t == rawN (m1 O)) = true := by
  rw [e, h.tot]; unfold rawN; exact beq_self_eq_true _
theorem cE_nil {A : Sd} {K : Nat} (h : Side A [] K) : (sc.car A.t == rawN []) = true := by
  rw [h.tot]; unfold rawN; exact beq_self_eq_true _
theorem okEE {x : Acts} {n c : Nat} {A B : Sd} {M N : List Int} {v : VF} (hn : n ≤ 30) (hA : Side A [] (100 * n)) (hB : Side B [] (100 * n)) (hl : ∀ rd, CodeOk Try.prog rd (.loop lb) (sE x n c) (.exit 0) (st HEE x n c n A B v)) : LEE x n c n A B v rawN := by
  have h30 : decide (nI n > 30) = false := by simp only [nI, decide_eq_false_iff_not]; omega
  have bA := hA.bound (by omega)
  have bB := hB.bound (by omega)
  have qa : 0 ≤ A.t ∧ A.t < 18446744073709551616 := by omega
  have qb : 0 ≤ B.t ∧ B.t < 18446744073709551616 := by omega
  exact ⟨⟨⟨⟨⟨⟨⟨⟨⟨⟨⟨⟨⟨⟨⟨⟨⟨⟨⟨⟨⟨trivial, h30⟩, hl⟩, qa⟩, rfl⟩, (cE_nil hA)⟩, (cE_nil hA)⟩, (cE_nil hA)⟩, (cE_nil hA)⟩, (cE_nil hA)⟩, (cE_nil hA)⟩, qb⟩, (cE_nil hA)⟩, rfl⟩, (cE_nil hA)⟩, (cE_nil hA)⟩, (cE_nil hB)⟩, (cE_nil hB)⟩, (cE_nil hB)⟩, (cE_nil hB)⟩, (cE_nil hB)⟩, trivial⟩
theorem okRE {x : Acts} {n c : Nat} {A B : Sd} {M N : List Int} {v : VF} (hn : n ≤ 30) (hA : Side A M (100 * n)) (hB : Side B [] (100 * n)) (fA : Full A M) (hl : ∀ rd, CodeOk Try.prog rd (.loop lb) (sE x n c) (.exit 0) (st HRE x n c n A B v)) : LRE x n c n A B v rawN := by
  have h30 : decide (nI n > 30) = false := by simp only [nI, decide_eq_false_iff_not]; omega
  have bA := hA.bound (by omega)
  have bB := hB.bound (by omega)
  have qa : 0 ≤ A.t ∧ A.t < 18446744073709551616 := by omega
  have qb : 0 ≤ B.t ∧ B.t < 18446744073709551616 := by omega
  exact ⟨⟨⟨⟨⟨⟨⟨⟨⟨⟨⟨⟨⟨⟨⟨⟨⟨⟨⟨⟨⟨trivial, h30⟩, hl⟩, qa⟩, (q13_of fA hA.byt (by have := hA.len; omega))⟩, (cE_of hA fA.m1)⟩, (cE_of hA fA.m1)⟩, (cE_of hA fA.m1)⟩, (cE_of hA fA.m1)⟩, (cE_of hA fA.m1)⟩, (cE_of hA fA.m1)⟩, qb⟩, (cE_of hA fA.m1)⟩, rfl⟩, (cE_of hA fA.m1)⟩, (cE_of hA fA.m1)⟩, (cE_nil hB)⟩, (cE_nil hB)⟩, (cE_nil hB)⟩, (cE_nil hB)⟩, (cE_nil hB)⟩, trivial⟩
theorem okER {x : Acts} {n c : Nat} {A B : Sd} {M N : List Int} {v : VF} (hn : n ≤ 30) (hA : Side A [] (100 * n)) (hB : Side B N (100 * n)) (fB : Full B N) (hl : ∀ rd, CodeOk Try.prog rd (.loop lb) (sE x n c) (.exit 0) (st HER x n c n A B v)) : LER x n c n A B v rawN := by
  have h30 : decide (nI n > 30) = false := by simp only [nI, decide_eq_false_iff_not]; omega
  have bA := hA.bound (by omega)
  have bB := hB.bound (by omega)
  have qa : 0 ≤ A.t ∧ A.t < 18446744073709551616 := by omega
  have qb : 0 ≤ B.t ∧ B.t < 18446744073709551616 := by omega
  exact ⟨⟨⟨⟨⟨⟨⟨⟨⟨⟨⟨⟨⟨⟨⟨⟨⟨⟨⟨⟨⟨trivial, h30⟩, hl⟩, qa⟩, rfl⟩, (cE_nil hA)⟩, (cE_nil hA)⟩, (cE_nil hA)⟩, (cE_nil hA)⟩, (cE_nil hA)⟩, (cE_nil hA)⟩, qb⟩, (cE_nil hA)⟩, (q13_of fB hB.byt (by have := hB.len; omega))⟩, (cE_nil hA)⟩, (cE_nil hA)⟩, (cE_of hB fB.m1)⟩, (cE_of hB fB.m1)⟩, (cE_of hB fB.m1)⟩, (cE_of hB fB.m1)⟩, (cE_of hB fB.m1)⟩, trivial⟩
theorem okRR {x : Acts} {n c : Nat} {A B : Sd} {M N : List Int} {v : VF} (hn : n ≤ 30) (hA : Side A M (100 * n)) (hB : Side B N (100 * n)) (fA : Full A M) (fB : Full B N) (hl : ∀ rd, CodeOk Try.prog rd (.loop lb) (sE x n c) (.exit 0) (st HRR x n c n A B v)) : LRR x n c n A B v rawN := by
  have h30 : decide (nI n > 30) = false := by simp only [nI, decide_eq_false_iff_not]; omega
  have bA := hA.bound (by omega)
  have bB := hB.bound (by omega)
  have qa : 0 ≤ A.t ∧ A.t < 18446744073709551616 := by omega
  have qb : 0 ≤ B.t ∧ B.t < 18446744073709551616 := by omega
  exact ⟨⟨⟨⟨⟨⟨⟨⟨⟨⟨⟨⟨⟨⟨⟨⟨⟨⟨⟨⟨⟨trivial, h30⟩, hl⟩, qa⟩, (q13_of fA hA.byt (by have := hA.len; omega))⟩, (cE_of hA fA.m1)⟩, (cE_of hA fA.m1)⟩, (cE_of hA fA.m1)⟩, (cE_of hA fA.m1)⟩, (cE_of hA fA.m1)⟩, (cE_of hA fA.m1)⟩, qb⟩, (cE_of hA fA.m1)⟩, (q13_of fB hB.byt (by have := hB.len; omega))⟩, (cE_of hA fA.m1)⟩, (cE_of hA fA.m1)⟩, (cE_of hB fB.m1)⟩, (cE_of hB fB.m1)⟩, (cE_of hB fB.m1)⟩, (cE_of hB fB.m1)⟩, (cE_of hB fB.m1)⟩, trivial⟩
theorem okSS {x : Acts} {n c : Nat} {A B : Sd} {M N : List Int} {v : VF} (hn : n ≤ 30) (hA : Side A M (100 * n)) (hB : Side B M (100 * n)) (fA : Full A M) (hl : ∀ rd, CodeOk Try.prog rd (.loop lb) (sE x n c) (.exit 0) (st HSS x n c n A B v)) : LSS x n c n A B v rawN := by
  have h30 : decide (nI n > 30) = false := by simp only [nI, decide_eq_false_iff_not]; omega
  have bA := hA.bound (by omega)
  have bB := hB.bound (by omega)
  have qa : 0 ≤ A.t ∧ A.t < 18446744073709551616 := by omega
  have qb : 0 ≤ B.t ∧ B.t < 18446744073709551616 := by omega
  exact ⟨⟨⟨⟨⟨⟨⟨⟨⟨⟨⟨⟨⟨⟨⟨⟨⟨⟨⟨⟨⟨trivial, h30⟩, hl⟩, qa⟩, (q13_of fA hA.byt (by have := hA.len; omega))⟩, (cE_of hA fA.m1)⟩, (cE_of hA fA.m1)⟩, (cE_of hA fA.m1)⟩, (cE_of hA fA.m1)⟩, (cE_of hA fA.m1)⟩, (cE_of hA fA.m1)⟩, qb⟩, (cE_of hA fA.m1)⟩, (q13_of fA hA.byt (by have := hA.len; omega))⟩, (cE_of hA fA.m1)⟩, (cE_of hA fA.m1)⟩, (cE_of hB fA.m1)⟩, (cE_of hB fA.m1)⟩, (cE_of hB fA.m1)⟩, (cE_of hB fA.m1)⟩, (cE_of hB fA.m1)⟩, trivial⟩
/-- whatever the calls: the law's call gives true -/
theorem plays {x : Acts} {W : World} {b o n c : Nat} (hat : x.At W b o n) (h : x.Ok n) (h0 : 0 < n) (hc : n ≤ c) :
    Calls Try.prog 7 #[.slice (some ⟨b, o, none⟩) n c] W fun e w' => e = .returned (.bool true) ∧ Below W.heap.size W w' := by
  have fin : ∀ (K : Given) (hK : GivenOk Try.prog K) (orc : List (Option Bool)) (p : Prop), call7 x K n c orc = some (.bool true, p) → p →
      Calls Try.prog 7 #[.slice (some ⟨b, o, none⟩) n c] W fun e w' => e = .returned (.bool true) ∧ Below W.heap.size W w' := fun K hK orc p hr hp => by
    obtain ⟨ρ, g1, g2⟩ := Acts.start hat orc
    exact ranG sr.pg hK (ρ := ρ) hr hp rfl g1 (VL.cons (g2 n c hc) VL.nil)
  by_cases hb : 30 < n
  · exact fin _ (KT_ok rawN) _ _ (lawBig x n c rawN) ⟨⟨trivial, by simp only [nI, decide_eq_true_eq]; omega⟩, trivial⟩
  have h30 : decide (nI n > 30) = false := by simp only [nI, decide_eq_false_iff_not]; omega
  rcases pb.first (p := fun i => x.m i ≤ 100) n with hm | ⟨k, k1, k2, k3⟩
  · obtain ⟨tz, ⟨A, B, M, N, v, hv, hA, hB, g⟩, hl⟩ := loopX (c := c) h (by omega) hm
    rcases g with ⟨rfl, rfl, rfl⟩ | ⟨fA, rfl, rfl⟩ | ⟨rfl, fB, rfl⟩ | ⟨fA, fB, rfl⟩ | ⟨fA, rfl, rfl⟩
    · exact fin _ (KX_ok _ _ _) _ _ (lawEE x n c n A B v rawN) (okEE (M := []) (N := []) (by omega) hA hB hl)
    · exact fin _ (KX_ok _ _ _) _ _ (lawRE x n c n A B v rawN) (okRE (N := []) (by omega) hA hB fA hl)
    · exact fin _ (KX_ok _ _ _) _ _ (lawER x n c n A B v rawN) (okER (M := []) (by omega) hA hB fB hl)
    · exact fin _ (KX_ok _ _ _) _ _ (lawRR x n c n A B v rawN) (okRR (by omega) hA hB fA fB hl)
    · exact fin _ (KX_ok _ _ _) _ _ (lawSS x n c n A B v rawN) (okSS (N := []) (by omega) hA hB fA hl)
  · obtain ⟨tz, ⟨v, rfl⟩, hl⟩ := loopY (c := c) h (by omega) k1 k3 (by omega)
    exact fin _ (KX_ok _ _ _) _ _ (lawY x n c k v rawN) ⟨⟨trivial, h30⟩, hl⟩
theorem sumPlays (W : World) (a0 : Option Addr) (n0 c0 : Nat) (s0 : (a0 = none ∧ n0 = 0 ∧ c0 = 0) ∨ ∃ b o, a0 = some ⟨b, o, none⟩ ∧ n0 ≤ c0 ∧ (c0 : Int) ≤ 9223372036854775807)
    (z0 : n0 = 0 ∨ ∃ b o, a0 = some ⟨b, o, none⟩ ∧ (0 < n0 → (Acts.of W b o).At W b o n0 ∧ (Acts.of W b o).Ok n0)) :
    Calls Try.prog 7 #[.slice a0 n0 c0] W fun e w' => e = .returned (.bool true) ∧ Below W.heap.size W w' := by
  rcases s0 with ⟨rfl, rfl, rfl⟩ | ⟨b, o, rfl, hc, _⟩
  · exact ran sr.pg K1_ok runZn ⟨trivial, trivial⟩ rfl rfl W
  · by_cases h0 : n0 = 0
    · subst h0
      exact ranG sr.pg K1_ok (ρ := fun _ => ⟨b, o, 0⟩) (runZz c0) ⟨trivial, trivial⟩ rfl (named_hs 1 _ _ W) (VL.cons (VR.unread (a := ⟨b, o, none⟩) (by decide) rfl rfl hc) VL.nil)
    · rcases z0 with h | ⟨b', o', e, h⟩
      · exact absurd h h0
      · cases e
        obtain ⟨h1, h2⟩ := h (by omega)
        exact plays h1 h2 (by omega) hc
end
end sp
end Go.Proofs.Yteknepfcbpoooab
