/- Read off the code by the clean reading. -/
import Derived.Test.YtgljibcokcgfbaaClnVg
import Derived.Test.YtgljibcokcgfbaaClnVd
set_option linter.unusedVariables false
set_option linter.unusedSimpArgs false
set_option linter.deprecated false
set_option maxRecDepth 100000
namespace Go.Proofs.Ytgljibcokcgfbaa
open Go.ChangeShapes Go.WideShapes Go.ChangeAt Go.RowKit Go.Cln
namespace hs
noncomputable section
def tmKRE0z (v : VF) (n c i : Nat) : List Value := (v 0 :: v 1 :: E0 :: vs v 3 3 (.bool false :: .pointer (some ⟨6, 0, none⟩) :: v 8 :: .int .i64 0 :: v 10 :: .int .i64 0 :: .slice (some ⟨104, 0, none⟩) 2 2 :: .pointer (some ⟨105, 0, none⟩) :: .int .i64 0 :: .int .i64 (nI i) :: vs v 16 245 []))
theorem tmKRE0z_dead {v : VF} {n c i : Nat} {B : Nat -> Bool} (h : ∀ i, DeadV (v i)) (hB : ∀ i, (Nat.beq i 2 || (Nat.ble 6 i && Nat.ble i 7) || Nat.beq i 9 || (Nat.ble 11 i && Nat.ble i 15)) = true -> B i = true) : deadT B 0 (tmKRE0z v n c i) :=
 ⟨fun _ => h 0, ⟨fun _ => h 1, ⟨fun e => absurd e (by rw [hB 2 rfl]; decide), deadT_vs h 3 (⟨fun e => absurd e (by rw [hB 6 rfl]; decide), ⟨fun e => absurd e (by rw [hB 7 rfl]; decide), ⟨fun _ => h 8, ⟨fun e => absurd e (by rw [hB 9 rfl]; decide), ⟨fun _ => h 10, ⟨fun e => absurd e (by rw [hB 11 rfl]; decide), ⟨fun e => absurd e (by rw [hB 12 rfl]; decide), ⟨fun e => absurd e (by rw [hB 13 rfl]; decide), ⟨fun e => absurd e (by rw [hB 14 rfl]; decide), ⟨fun e => absurd e (by rw [hB 15 rfl]; decide), deadT_vs h 245 (trivial)⟩⟩⟩⟩⟩⟩⟩⟩⟩⟩)⟩⟩⟩
def hKRE0z (x : Acts) (n : Nat) (A B : Sd) (M M2 : List Int) : Nat -> Option Ob := fun i => match i with
 | 0 => some (.fam x.F)
 | 6 => some (.cells (.lit [.slice (some ⟨4, 0, some 1⟩) (0 + A.y.n) (0 + A.y.n), .slice (some ⟨5, 0, none⟩) (0 + B.y.n) 0]) 26)
 | 4 => some (.cells (.ints .u8 M) 5)
 | 44 => ad A
 | 54 => md 44 A
 | 93 => ad B
 | 103 => md 93 B
 | 104 => some (.cells (.lit [.pointer (some ⟨54, 0, none⟩), .pointer (some ⟨103, 0, none⟩)]) 27)
 | 105 => some (.cells (.lit [hq.kv A.y, hq.kv B.y]) 26)
 | _ => none
theorem hKRE0z_ok (x : Acts) (n : Nat) (A B : Sd) (M M2 : List Int) : Go.Cln.RowsIn (hKRE0z x n A B M M2) := by
 intro b n' w' g t h
 unfold hKRE0z at h
 split at h <;> cases h
def sKRE0z (x : Acts) (n c : Nat) (A B : Sd) (v : VF) (M M2 : List Int) (i : Nat) : St := ⟨tmKRE0z v n c i, [], Tr.rebuild (hKRE0z x n A B M M2) 106, 106, 2, [], fun _ => false, True, []⟩
def tmKER1z (v : VF) (n c i : Nat) : List Value := (v 0 :: v 1 :: E0 :: vs v 3 3 (.bool false :: .pointer (some ⟨6, 0, none⟩) :: v 8 :: .int .i64 0 :: v 10 :: .int .i64 0 :: .slice (some ⟨104, 0, none⟩) 2 2 :: .pointer (some ⟨105, 0, none⟩) :: .int .i64 1 :: .int .i64 (nI i) :: vs v 16 245 []))
theorem tmKER1z_dead {v : VF} {n c i : Nat} {B : Nat -> Bool} (h : ∀ i, DeadV (v i)) (hB : ∀ i, (Nat.beq i 2 || (Nat.ble 6 i && Nat.ble i 7) || Nat.beq i 9 || (Nat.ble 11 i && Nat.ble i 15)) = true -> B i = true) : deadT B 0 (tmKER1z v n c i) :=
 ⟨fun _ => h 0, ⟨fun _ => h 1, ⟨fun e => absurd e (by rw [hB 2 rfl]; decide), deadT_vs h 3 (⟨fun e => absurd e (by rw [hB 6 rfl]; decide), ⟨fun e => absurd e (by rw [hB 7 rfl]; decide), ⟨fun _ => h 8, ⟨fun e => absurd e (by rw [hB 9 rfl]; decide), ⟨fun _ => h 10, ⟨fun e => absurd e (by rw [hB 11 rfl]; decide), ⟨fun e => absurd e (by rw [hB 12 rfl]; decide), ⟨fun e => absurd e (by rw [hB 13 rfl]; decide), ⟨fun e => absurd e (by rw [hB 14 rfl]; decide), ⟨fun e => absurd e (by rw [hB 15 rfl]; decide), deadT_vs h 245 (trivial)⟩⟩⟩⟩⟩⟩⟩⟩⟩⟩)⟩⟩⟩
def hKER1z (x : Acts) (n : Nat) (A B : Sd) (M M2 : List Int) : Nat -> Option Ob := fun i => match i with
 | 0 => some (.fam x.F)
 | 6 => some (.cells (.lit [.slice (some ⟨3, 0, none⟩) (0 + A.y.n) 0, .slice (some ⟨5, 0, some 1⟩) (0 + B.y.n) (0 + B.y.n)]) 26)
 | 5 => some (.cells (.ints .u8 M) 5)
 | 45 => ad A
 | 55 => md 45 A
 | 93 => ad B
 | 103 => md 93 B
 | 104 => some (.cells (.lit [.pointer (some ⟨55, 0, none⟩), .pointer (some ⟨103, 0, none⟩)]) 27)
 | 105 => some (.cells (.lit [hq.kv A.y, hq.kv B.y]) 26)
 | _ => none
theorem hKER1z_ok (x : Acts) (n : Nat) (A B : Sd) (M M2 : List Int) : Go.Cln.RowsIn (hKER1z x n A B M M2) := by
 intro b n' w' g t h
 unfold hKER1z at h
 split at h <;> cases h
def sKER1z (x : Acts) (n c : Nat) (A B : Sd) (v : VF) (M M2 : List Int) (i : Nat) : St := ⟨tmKER1z v n c i, [], Tr.rebuild (hKER1z x n A B M M2) 106, 106, 2, [], fun _ => false, True, []⟩
def tmKRR0z (v : VF) (n c i : Nat) : List Value := (v 0 :: v 1 :: E0 :: vs v 3 3 (.bool false :: .pointer (some ⟨7, 0, none⟩) :: v 8 :: .int .i64 0 :: v 10 :: .int .i64 0 :: .slice (some ⟨104, 0, none⟩) 2 2 :: .pointer (some ⟨105, 0, none⟩) :: .int .i64 0 :: .int .i64 (nI i) :: vs v 16 245 []))
theorem tmKRR0z_dead {v : VF} {n c i : Nat} {B : Nat -> Bool} (h : ∀ i, DeadV (v i)) (hB : ∀ i, (Nat.beq i 2 || (Nat.ble 6 i && Nat.ble i 7) || Nat.beq i 9 || (Nat.ble 11 i && Nat.ble i 15)) = true -> B i = true) : deadT B 0 (tmKRR0z v n c i) :=
 ⟨fun _ => h 0, ⟨fun _ => h 1, ⟨fun e => absurd e (by rw [hB 2 rfl]; decide), deadT_vs h 3 (⟨fun e => absurd e (by rw [hB 6 rfl]; decide), ⟨fun e => absurd e (by rw [hB 7 rfl]; decide), ⟨fun _ => h 8, ⟨fun e => absurd e (by rw [hB 9 rfl]; decide), ⟨fun _ => h 10, ⟨fun e => absurd e (by rw [hB 11 rfl]; decide), ⟨fun e => absurd e (by rw [hB 12 rfl]; decide), ⟨fun e => absurd e (by rw [hB 13 rfl]; decide), ⟨fun e => absurd e (by rw [hB 14 rfl]; decide), ⟨fun e => absurd e (by rw [hB 15 rfl]; decide), deadT_vs h 245 (trivial)⟩⟩⟩⟩⟩⟩⟩⟩⟩⟩)⟩⟩⟩
def hKRR0z (x : Acts) (n : Nat) (A B : Sd) (M M2 : List Int) : Nat -> Option Ob := fun i => match i with
 | 0 => some (.fam x.F)
 | 7 => some (.cells (.lit [.slice (some ⟨4, 0, some 1⟩) (0 + A.y.n) (0 + A.y.n), .slice (some ⟨6, 0, some 1⟩) (0 + B.y.n) (0 + B.y.n)]) 26)
 | 4 => some (.cells (.ints .u8 M) 5)
 | 6 => some (.cells (.ints .u8 M2) 5)
 | 45 => ad A
 | 55 => md 45 A
 | 93 => ad B
 | 103 => md 93 B
 | 104 => some (.cells (.lit [.pointer (some ⟨55, 0, none⟩), .pointer (some ⟨103, 0, none⟩)]) 27)
 | 105 => some (.cells (.lit [hq.kv A.y, hq.kv B.y]) 26)
 | _ => none
theorem hKRR0z_ok (x : Acts) (n : Nat) (A B : Sd) (M M2 : List Int) : Go.Cln.RowsIn (hKRR0z x n A B M M2) := by
 intro b n' w' g t h
 unfold hKRR0z at h
 split at h <;> cases h
def sKRR0z (x : Acts) (n c : Nat) (A B : Sd) (v : VF) (M M2 : List Int) (i : Nat) : St := ⟨tmKRR0z v n c i, [], Tr.rebuild (hKRR0z x n A B M M2) 106, 106, 2, [], fun _ => false, True, []⟩
def tmKRR1z (v : VF) (n c i : Nat) : List Value := (v 0 :: v 1 :: E0 :: vs v 3 3 (.bool false :: .pointer (some ⟨7, 0, none⟩) :: v 8 :: .int .i64 0 :: v 10 :: .int .i64 0 :: .slice (some ⟨104, 0, none⟩) 2 2 :: .pointer (some ⟨105, 0, none⟩) :: .int .i64 1 :: .int .i64 (nI i) :: vs v 16 245 []))
theorem tmKRR1z_dead {v : VF} {n c i : Nat} {B : Nat -> Bool} (h : ∀ i, DeadV (v i)) (hB : ∀ i, (Nat.beq i 2 || (Nat.ble 6 i && Nat.ble i 7) || Nat.beq i 9 || (Nat.ble 11 i && Nat.ble i 15)) = true -> B i = true) : deadT B 0 (tmKRR1z v n c i) :=
 ⟨fun _ => h 0, ⟨fun _ => h 1, ⟨fun e => absurd e (by rw [hB 2 rfl]; decide), deadT_vs h 3 (⟨fun e => absurd e (by rw [hB 6 rfl]; decide), ⟨fun e => absurd e (by rw [hB 7 rfl]; decide), ⟨fun _ => h 8, ⟨fun e => absurd e (by rw [hB 9 rfl]; decide), ⟨fun _ => h 10, ⟨fun e => absurd e (by rw [hB 11 rfl]; decide), ⟨fun e => absurd e (by rw [hB 12 rfl]; decide), ⟨fun e => absurd e (by rw [hB 13 rfl]; decide), ⟨fun e => absurd e (by rw [hB 14 rfl]; decide), ⟨fun e => absurd e (by rw [hB 15 rfl]; decide), deadT_vs h 245 (trivial)⟩⟩⟩⟩⟩⟩⟩⟩⟩⟩)⟩⟩⟩
def hKRR1z (x : Acts) (n : Nat) (A B : Sd) (M M2 : List Int) : Nat -> Option Ob := fun i => match i with
 | 0 => some (.fam x.F)
 | 7 => some (.cells (.lit [.slice (some ⟨4, 0, some 1⟩) (0 + A.y.n) (0 + A.y.n), .slice (some ⟨6, 0, some 1⟩) (0 + B.y.n) (0 + B.y.n)]) 26)
 | 6 => some (.cells (.ints .u8 M) 5)
 | 45 => ad A
 | 55 => md 45 A
 | 93 => ad B
 | 103 => md 93 B
 | 104 => some (.cells (.lit [.pointer (some ⟨55, 0, none⟩), .pointer (some ⟨103, 0, none⟩)]) 27)
 | 105 => some (.cells (.lit [hq.kv A.y, hq.kv B.y]) 26)
 | _ => none
theorem hKRR1z_ok (x : Acts) (n : Nat) (A B : Sd) (M M2 : List Int) : Go.Cln.RowsIn (hKRR1z x n A B M M2) := by
 intro b n' w' g t h
 unfold hKRR1z at h
 split at h <;> cases h
def sKRR1z (x : Acts) (n c : Nat) (A B : Sd) (v : VF) (M M2 : List Int) (i : Nat) : St := ⟨tmKRR1z v n c i, [], Tr.rebuild (hKRR1z x n A B M M2) 106, 106, 2, [], fun _ => false, True, []⟩
def JKRE0z (i : Nat) : Bool := (Nat.ble 0 i && Nat.ble i 1) || Nat.beq i 8 || Nat.beq i 10 || (Nat.ble 31 i && Nat.ble i 40) || (Nat.ble 42 i && Nat.ble i 47) || (Nat.ble 50 i && Nat.ble i 51) || (Nat.ble 53 i && Nat.ble i 54) || (Nat.ble 56 i && Nat.ble i 57) || (Nat.ble 59 i && Nat.ble i 65) || (Nat.ble 67 i && Nat.ble i 68)
def vKRE0z : VF := fun i => match JKRE0z i with
 | true => junk
 | false => match (Nat.beq i 48 || Nat.beq i 66) with
  | true => .agg #[junk, junk]
  | false => match (Nat.beq i 49 || Nat.beq i 52) || (Nat.beq i 55 || Nat.beq i 58) with
   | true => .tuple #[junk, junk]
   | false => undef
theorem vKRE0z_dead (i : Nat) : DeadV (vKRE0z i) := by
 unfold vKRE0z
 split
 ·exact DeadV.junk
 ·split
  ·exact ⟨rfl, fun _ => rfl, fun _ => rfl⟩
  ·split
   ·exact ⟨rfl, fun _ => rfl, fun _ => rfl⟩
   ·exact DeadV.undef
theorem knRE0z (x : Acts) (n c : Nat) (A B : Sd) (v : VF) (M M2 : List Int) (j : Nat) (rd : Option Nat) : goK (sKRE0z x n c A B v M M2 j) rd oK (sKRE0z x n c A B (VK v) (up M j) M2 (j + 1)) = some (.normal, pJJ A.y.n M j, seenAsT BK (sKRE0z x n c A B (VK v) (up M j) M2 (j + 1)) [] 106) := by kernel_rfl
theorem kxRE0z (x : Acts) (n c : Nat) (A B : Sd) (v : VF) (M M2 : List Int) (j : Nat) (rd : Option Nat) : goK (sKRE0z x n c A B (VK v) M M2 j) rd [none, F] (sKRE0z x n c A B (VK v) M M2 j) = some (.exit 2, True /\ decide (nI j < nI (0 + A.y.n)) = false, seenAsT BK (sKRE0z x n c A B (VK v) M M2 j) [] 106) := by kernel_rfl
theorem koRE0z (tE : List Value) (gE : Nat -> Option Ob) (x : Acts) (n c : Nat) (A B : Sd) (v : VF) (M M2 : List Int) (j : Nat) : picOkT BK (⟨tE, [], Tr.rebuild gE 106, 106, 2, [], fun _ => false, True, []⟩ : St) (sKRE0z x n c A B (VK v) M M2 j) [] = true := by kernel_rfl
def tKERE0z (n c : Nat) (A B : Sd) : List Value := (junk :: junk :: E0 :: rp undef 3 (.bool false :: .pointer (some ⟨6, 0, none⟩) :: junk :: .int .i64 0 :: junk :: .int .i64 0 :: .slice (some ⟨104, 0, none⟩) 2 2 :: .pointer (some ⟨105, 0, none⟩) :: .int .i64 0 :: .int .i64 0 :: rp undef 15 (rp junk 10 (undef :: rp junk 6 (.agg #[.slice (some ⟨4, 0, some 1⟩) (0 + A.y.n) (0 + A.y.n), .slice (some ⟨5, 0, none⟩) (0 + B.y.n) 0] :: .tuple #[.pointer (some ⟨54, 0, none⟩), .int .i64 0] :: junk :: junk :: .tuple #[.pointer (some ⟨54, 0, none⟩), .int .i64 0] :: junk :: junk :: .tuple #[.pointer (some ⟨103, 0, none⟩), .int .i64 0] :: junk :: junk :: .tuple #[.pointer (some ⟨103, 0, none⟩), .int .i64 0] :: rp junk 7 (.agg #[hq.kv A.y, hq.kv B.y] :: junk :: junk :: rp undef 192 []))))))
def sKERE0z (x : Acts) (n c : Nat) (A B : Sd) (M M2 : List Int) : St := ⟨tKERE0z n c A B, [], Tr.rebuild (hKRE0z x n A B M M2) 106, 106, 2, [], fun _ => false, True, []⟩
theorem seeKRE0z (x : Acts) (n c : Nat) (A B : Sd) (M M2 : List Int) : seenInT allB (sKERE0z x n c A B M M2) (sKRE0z x n c A B vKRE0z M M2 0) [] = seenAsT allB (sKRE0z x n c A B vKRE0z M M2 0) [] 106 := by kernel_rfl
theorem viewKRE0z (x : Acts) (n c : Nat) (A B : Sd) (M M2 : List Int) : ViewM (sKERE0z x n c A B M M2) (sKERE0z x n c A B M M2) (sKRE0z x n c A B vKRE0z M M2 0) (nm []) :=
 ViewM.stdT (f := hKRE0z x n A B M M2) (tmKRE0z_dead (n := n) (c := c) vKRE0z_dead (fun _ _ => rfl)) (hKRE0z_ok _ _ _ _ _ _) rfl (by kernel_rfl) (seeKRE0z x n c A B M M2)
theorem loopKRE0z (x : Acts) (n c : Nat) (A B : Sd) (M M2 : List Int) (m : Nat) (hm : A.y.n = m) (h0 : 0 < m) (h100 : m <= 1000) (hM : M.length = m) (rd : Option Nat) :
  CodeOk Try.prog rd (.loop lk) (sKERE0z x n c A B M M2) (.exit 2) (sKRE0z x n c A B (VK vKRE0z) (ups M m) M2 m) := by
 have hvj : ∀ j i, DeadV (vk vKRE0z j i) := fun j i => by
  cases j with
  | zero => exact vKRE0z_dead i
  | succ j => exact VK_dead vKRE0z_dead i
 refine CodeOk.of_step (Step.loop (fun g t => (g = m + 1 /\ t = sKERE0z x n c A B M M2) ∨ ∃ j, 1 <= j /\ j <= m /\ g = m - j /\ t = sKRE0z x n c A B (vk vKRE0z j) (ups M j) M2 j) ?_ (m + 1) _ (.inl ⟨rfl, rfl⟩))
 have key : ∀ j, j < m -> Step Try.prog rd (sKERE0z x n c A B M M2) lk (sKRE0z x n c A B (vk vKRE0z j) (ups M j) M2 j) (fun e t => e = .normal /\ t = sKRE0z x n c A B (vk vKRE0z (j + 1)) (ups M (j + 1)) M2 (j + 1)) := fun j hj => by
  have e1 : vk vKRE0z (j + 1) = VK (vk vKRE0z j) := by
   cases j with
   | zero => rfl
   | succ j => exact (VK2 _).symm
  rw [e1]
  exact Step.stdT (s0 := sKERE0z x n c A B M M2) sw.pg K0_ok (B := BK) (g := hKRE0z x n A B (up (ups M j) j) M2) (knRE0z x n c A B (vk vKRE0z j) (ups M j) M2 j rd) (by rw [hm]; exact pJJ_ok hj (by rw [ups_len]; exact hM) h100) (Nat.le_refl _) (tmKRE0z_dead (n := n) (c := c) (VK_dead (hvj j)) lvK) (hKRE0z_ok _ _ _ _ _ _) rfl (koRE0z ..)
 rintro g t (⟨rfl, rfl⟩ | ⟨j, j1, j2, rfl, rfl⟩)
 ·refine Step.viewM (viewKRE0z x n c A B M M2) ((key 0 h0).mono ?_)
  rintro e' t ⟨rfl, rfl⟩
  exact .inl ⟨rfl, m - 1, by omega, .inr ⟨0 + 1, by omega, by omega, by omega, rfl⟩⟩
 ·by_cases hj : j = m
  ·subst hj
   obtain ⟨i, rfl⟩ : ∃ i, j = i + 1 := ⟨j - 1, by omega⟩
   refine (Step.stdT (s0 := sKERE0z x n c A B M M2) sw.pg K0_ok (B := BK) (g := hKRE0z x n A B (ups M (i + 1)) M2) (kxRE0z x n c A B vKRE0z (ups M (i + 1)) M2 (i + 1) rd) ⟨trivial, by rw [hm]; simp only [nI, decide_eq_false_iff_not]; omega⟩ (Nat.le_refl _) (tmKRE0z_dead (n := n) (c := c) (VK_dead vKRE0z_dead) lvK) (hKRE0z_ok _ _ _ _ _ _) rfl (koRE0z ..)).mono ?_
   rintro e' t ⟨rfl, rfl⟩
   exact .inr ⟨(by intro x; cases x), rfl, rfl⟩
  ·refine (key j (by omega)).mono ?_
   rintro e' t ⟨rfl, rfl⟩
   exact .inl ⟨rfl, m - (j + 1), by omega, .inr ⟨j + 1, by omega, by omega, by omega, rfl⟩⟩
def JKER1z (i : Nat) : Bool := (Nat.ble 0 i && Nat.ble i 1) || Nat.beq i 8 || Nat.beq i 10 || (Nat.ble 31 i && Nat.ble i 40) || (Nat.ble 42 i && Nat.ble i 47) || (Nat.ble 50 i && Nat.ble i 51) || (Nat.ble 53 i && Nat.ble i 54) || (Nat.ble 56 i && Nat.ble i 57) || (Nat.ble 59 i && Nat.ble i 65) || (Nat.ble 67 i && Nat.ble i 76)
def vKER1z : VF := fun i => match JKER1z i with
 | true => junk
 | false => match (Nat.beq i 48 || Nat.beq i 66) with
  | true => .agg #[junk, junk]
  | false => match (Nat.beq i 49 || Nat.beq i 52) || (Nat.beq i 55 || Nat.beq i 58) with
   | true => .tuple #[junk, junk]
   | false => undef
theorem vKER1z_dead (i : Nat) : DeadV (vKER1z i) := by
 unfold vKER1z
 split
 ·exact DeadV.junk
 ·split
  ·exact ⟨rfl, fun _ => rfl, fun _ => rfl⟩
  ·split
   ·exact ⟨rfl, fun _ => rfl, fun _ => rfl⟩
   ·exact DeadV.undef
theorem knER1z (x : Acts) (n c : Nat) (A B : Sd) (v : VF) (M M2 : List Int) (j : Nat) (rd : Option Nat) : goK (sKER1z x n c A B v M M2 j) rd oK (sKER1z x n c A B (VK v) (up M j) M2 (j + 1)) = some (.normal, pJJ B.y.n M j, seenAsT BK (sKER1z x n c A B (VK v) (up M j) M2 (j + 1)) [] 106) := by kernel_rfl
theorem kxER1z (x : Acts) (n c : Nat) (A B : Sd) (v : VF) (M M2 : List Int) (j : Nat) (rd : Option Nat) : goK (sKER1z x n c A B (VK v) M M2 j) rd [none, F] (sKER1z x n c A B (VK v) M M2 j) = some (.exit 2, True /\ decide (nI j < nI (0 + B.y.n)) = false, seenAsT BK (sKER1z x n c A B (VK v) M M2 j) [] 106) := by kernel_rfl
theorem koER1z (tE : List Value) (gE : Nat -> Option Ob) (x : Acts) (n c : Nat) (A B : Sd) (v : VF) (M M2 : List Int) (j : Nat) : picOkT BK (⟨tE, [], Tr.rebuild gE 106, 106, 2, [], fun _ => false, True, []⟩ : St) (sKER1z x n c A B (VK v) M M2 j) [] = true := by kernel_rfl
def tKEER1z (n c : Nat) (A B : Sd) : List Value := (junk :: junk :: E0 :: rp undef 3 (.bool false :: .pointer (some ⟨6, 0, none⟩) :: junk :: .int .i64 0 :: junk :: .int .i64 0 :: .slice (some ⟨104, 0, none⟩) 2 2 :: .pointer (some ⟨105, 0, none⟩) :: .int .i64 1 :: .int .i64 0 :: rp undef 15 (rp junk 10 (undef :: rp junk 6 (.agg #[.slice (some ⟨3, 0, none⟩) (0 + A.y.n) 0, .slice (some ⟨5, 0, some 1⟩) (0 + B.y.n) (0 + B.y.n)] :: .tuple #[.pointer (some ⟨55, 0, none⟩), .int .i64 0] :: junk :: junk :: .tuple #[.pointer (some ⟨55, 0, none⟩), .int .i64 0] :: junk :: junk :: .tuple #[.pointer (some ⟨103, 0, none⟩), .int .i64 0] :: junk :: junk :: .tuple #[.pointer (some ⟨103, 0, none⟩), .int .i64 0] :: rp junk 7 (.agg #[hq.kv A.y, hq.kv B.y] :: rp junk 10 (rp undef 184 [])))))))
def sKEER1z (x : Acts) (n c : Nat) (A B : Sd) (M M2 : List Int) : St := ⟨tKEER1z n c A B, [], Tr.rebuild (hKER1z x n A B M M2) 106, 106, 2, [], fun _ => false, True, []⟩
theorem seeKER1z (x : Acts) (n c : Nat) (A B : Sd) (M M2 : List Int) : seenInT allB (sKEER1z x n c A B M M2) (sKER1z x n c A B vKER1z M M2 0) [] = seenAsT allB (sKER1z x n c A B vKER1z M M2 0) [] 106 := by kernel_rfl
theorem viewKER1z (x : Acts) (n c : Nat) (A B : Sd) (M M2 : List Int) : ViewM (sKEER1z x n c A B M M2) (sKEER1z x n c A B M M2) (sKER1z x n c A B vKER1z M M2 0) (nm []) :=
 ViewM.stdT (f := hKER1z x n A B M M2) (tmKER1z_dead (n := n) (c := c) vKER1z_dead (fun _ _ => rfl)) (hKER1z_ok _ _ _ _ _ _) rfl (by kernel_rfl) (seeKER1z x n c A B M M2)
theorem loopKER1z (x : Acts) (n c : Nat) (A B : Sd) (M M2 : List Int) (m : Nat) (hm : B.y.n = m) (h0 : 0 < m) (h100 : m <= 1000) (hM : M.length = m) (rd : Option Nat) :
  CodeOk Try.prog rd (.loop lk) (sKEER1z x n c A B M M2) (.exit 2) (sKER1z x n c A B (VK vKER1z) (ups M m) M2 m) := by
 have hvj : ∀ j i, DeadV (vk vKER1z j i) := fun j i => by
  cases j with
  | zero => exact vKER1z_dead i
  | succ j => exact VK_dead vKER1z_dead i
 refine CodeOk.of_step (Step.loop (fun g t => (g = m + 1 /\ t = sKEER1z x n c A B M M2) ∨ ∃ j, 1 <= j /\ j <= m /\ g = m - j /\ t = sKER1z x n c A B (vk vKER1z j) (ups M j) M2 j) ?_ (m + 1) _ (.inl ⟨rfl, rfl⟩))
 have key : ∀ j, j < m -> Step Try.prog rd (sKEER1z x n c A B M M2) lk (sKER1z x n c A B (vk vKER1z j) (ups M j) M2 j) (fun e t => e = .normal /\ t = sKER1z x n c A B (vk vKER1z (j + 1)) (ups M (j + 1)) M2 (j + 1)) := fun j hj => by
  have e1 : vk vKER1z (j + 1) = VK (vk vKER1z j) := by
   cases j with
   | zero => rfl
   | succ j => exact (VK2 _).symm
  rw [e1]
  exact Step.stdT (s0 := sKEER1z x n c A B M M2) sw.pg K0_ok (B := BK) (g := hKER1z x n A B (up (ups M j) j) M2) (knER1z x n c A B (vk vKER1z j) (ups M j) M2 j rd) (by rw [hm]; exact pJJ_ok hj (by rw [ups_len]; exact hM) h100) (Nat.le_refl _) (tmKER1z_dead (n := n) (c := c) (VK_dead (hvj j)) lvK) (hKER1z_ok _ _ _ _ _ _) rfl (koER1z ..)
 rintro g t (⟨rfl, rfl⟩ | ⟨j, j1, j2, rfl, rfl⟩)
 ·refine Step.viewM (viewKER1z x n c A B M M2) ((key 0 h0).mono ?_)
  rintro e' t ⟨rfl, rfl⟩
  exact .inl ⟨rfl, m - 1, by omega, .inr ⟨0 + 1, by omega, by omega, by omega, rfl⟩⟩
 ·by_cases hj : j = m
  ·subst hj
   obtain ⟨i, rfl⟩ : ∃ i, j = i + 1 := ⟨j - 1, by omega⟩
   refine (Step.stdT (s0 := sKEER1z x n c A B M M2) sw.pg K0_ok (B := BK) (g := hKER1z x n A B (ups M (i + 1)) M2) (kxER1z x n c A B vKER1z (ups M (i + 1)) M2 (i + 1) rd) ⟨trivial, by rw [hm]; simp only [nI, decide_eq_false_iff_not]; omega⟩ (Nat.le_refl _) (tmKER1z_dead (n := n) (c := c) (VK_dead vKER1z_dead) lvK) (hKER1z_ok _ _ _ _ _ _) rfl (koER1z ..)).mono ?_
   rintro e' t ⟨rfl, rfl⟩
   exact .inr ⟨(by intro x; cases x), rfl, rfl⟩
  ·refine (key j (by omega)).mono ?_
   rintro e' t ⟨rfl, rfl⟩
   exact .inl ⟨rfl, m - (j + 1), by omega, .inr ⟨j + 1, by omega, by omega, by omega, rfl⟩⟩
def JKRR0z (i : Nat) : Bool := (Nat.ble 0 i && Nat.ble i 1) || Nat.beq i 8 || Nat.beq i 10 || (Nat.ble 31 i && Nat.ble i 40) || (Nat.ble 42 i && Nat.ble i 47) || (Nat.ble 50 i && Nat.ble i 51) || (Nat.ble 53 i && Nat.ble i 54) || (Nat.ble 56 i && Nat.ble i 57) || (Nat.ble 59 i && Nat.ble i 65) || (Nat.ble 67 i && Nat.ble i 68)
def vKRR0z : VF := fun i => match JKRR0z i with
 | true => junk
 | false => match (Nat.beq i 48 || Nat.beq i 66) with
  | true => .agg #[junk, junk]
  | false => match (Nat.beq i 49 || Nat.beq i 52) || (Nat.beq i 55 || Nat.beq i 58) with
   | true => .tuple #[junk, junk]
   | false => undef
theorem vKRR0z_dead (i : Nat) : DeadV (vKRR0z i) := by
 unfold vKRR0z
 split
 ·exact DeadV.junk
 ·split
  ·exact ⟨rfl, fun _ => rfl, fun _ => rfl⟩
  ·split
   ·exact ⟨rfl, fun _ => rfl, fun _ => rfl⟩
   ·exact DeadV.undef
theorem knRR0z (x : Acts) (n c : Nat) (A B : Sd) (v : VF) (M M2 : List Int) (j : Nat) (rd : Option Nat) : goK (sKRR0z x n c A B v M M2 j) rd oK (sKRR0z x n c A B (VK v) (up M j) M2 (j + 1)) = some (.normal, pJJ A.y.n M j, seenAsT BK (sKRR0z x n c A B (VK v) (up M j) M2 (j + 1)) [] 106) := by kernel_rfl
theorem kxRR0z (x : Acts) (n c : Nat) (A B : Sd) (v : VF) (M M2 : List Int) (j : Nat) (rd : Option Nat) : goK (sKRR0z x n c A B (VK v) M M2 j) rd [none, F] (sKRR0z x n c A B (VK v) M M2 j) = some (.exit 2, True /\ decide (nI j < nI (0 + A.y.n)) = false, seenAsT BK (sKRR0z x n c A B (VK v) M M2 j) [] 106) := by kernel_rfl
theorem koRR0z (tE : List Value) (gE : Nat -> Option Ob) (x : Acts) (n c : Nat) (A B : Sd) (v : VF) (M M2 : List Int) (j : Nat) : picOkT BK (⟨tE, [], Tr.rebuild gE 106, 106, 2, [], fun _ => false, True, []⟩ : St) (sKRR0z x n c A B (VK v) M M2 j) [] = true := by kernel_rfl
def tKERR0z (n c : Nat) (A B : Sd) : List Value := (junk :: junk :: E0 :: rp undef 3 (.bool false :: .pointer (some ⟨7, 0, none⟩) :: junk :: .int .i64 0 :: junk :: .int .i64 0 :: .slice (some ⟨104, 0, none⟩) 2 2 :: .pointer (some ⟨105, 0, none⟩) :: .int .i64 0 :: .int .i64 0 :: rp undef 15 (rp junk 10 (undef :: rp junk 6 (.agg #[.slice (some ⟨4, 0, some 1⟩) (0 + A.y.n) (0 + A.y.n), .slice (some ⟨6, 0, some 1⟩) (0 + B.y.n) (0 + B.y.n)] :: .tuple #[.pointer (some ⟨55, 0, none⟩), .int .i64 0] :: junk :: junk :: .tuple #[.pointer (some ⟨55, 0, none⟩), .int .i64 0] :: junk :: junk :: .tuple #[.pointer (some ⟨103, 0, none⟩), .int .i64 0] :: junk :: junk :: .tuple #[.pointer (some ⟨103, 0, none⟩), .int .i64 0] :: rp junk 7 (.agg #[hq.kv A.y, hq.kv B.y] :: junk :: junk :: rp undef 192 []))))))
def sKERR0z (x : Acts) (n c : Nat) (A B : Sd) (M M2 : List Int) : St := ⟨tKERR0z n c A B, [], Tr.rebuild (hKRR0z x n A B M M2) 106, 106, 2, [], fun _ => false, True, []⟩
theorem seeKRR0z (x : Acts) (n c : Nat) (A B : Sd) (M M2 : List Int) : seenInT allB (sKERR0z x n c A B M M2) (sKRR0z x n c A B vKRR0z M M2 0) [] = seenAsT allB (sKRR0z x n c A B vKRR0z M M2 0) [] 106 := by kernel_rfl
theorem viewKRR0z (x : Acts) (n c : Nat) (A B : Sd) (M M2 : List Int) : ViewM (sKERR0z x n c A B M M2) (sKERR0z x n c A B M M2) (sKRR0z x n c A B vKRR0z M M2 0) (nm []) :=
 ViewM.stdT (f := hKRR0z x n A B M M2) (tmKRR0z_dead (n := n) (c := c) vKRR0z_dead (fun _ _ => rfl)) (hKRR0z_ok _ _ _ _ _ _) rfl (by kernel_rfl) (seeKRR0z x n c A B M M2)
theorem loopKRR0z (x : Acts) (n c : Nat) (A B : Sd) (M M2 : List Int) (m : Nat) (hm : A.y.n = m) (h0 : 0 < m) (h100 : m <= 1000) (hM : M.length = m) (rd : Option Nat) :
  CodeOk Try.prog rd (.loop lk) (sKERR0z x n c A B M M2) (.exit 2) (sKRR0z x n c A B (VK vKRR0z) (ups M m) M2 m) := by
 have hvj : ∀ j i, DeadV (vk vKRR0z j i) := fun j i => by
  cases j with
  | zero => exact vKRR0z_dead i
  | succ j => exact VK_dead vKRR0z_dead i
 refine CodeOk.of_step (Step.loop (fun g t => (g = m + 1 /\ t = sKERR0z x n c A B M M2) ∨ ∃ j, 1 <= j /\ j <= m /\ g = m - j /\ t = sKRR0z x n c A B (vk vKRR0z j) (ups M j) M2 j) ?_ (m + 1) _ (.inl ⟨rfl, rfl⟩))
 have key : ∀ j, j < m -> Step Try.prog rd (sKERR0z x n c A B M M2) lk (sKRR0z x n c A B (vk vKRR0z j) (ups M j) M2 j) (fun e t => e = .normal /\ t = sKRR0z x n c A B (vk vKRR0z (j + 1)) (ups M (j + 1)) M2 (j + 1)) := fun j hj => by
  have e1 : vk vKRR0z (j + 1) = VK (vk vKRR0z j) := by
   cases j with
   | zero => rfl
   | succ j => exact (VK2 _).symm
  rw [e1]
  exact Step.stdT (s0 := sKERR0z x n c A B M M2) sw.pg K0_ok (B := BK) (g := hKRR0z x n A B (up (ups M j) j) M2) (knRR0z x n c A B (vk vKRR0z j) (ups M j) M2 j rd) (by rw [hm]; exact pJJ_ok hj (by rw [ups_len]; exact hM) h100) (Nat.le_refl _) (tmKRR0z_dead (n := n) (c := c) (VK_dead (hvj j)) lvK) (hKRR0z_ok _ _ _ _ _ _) rfl (koRR0z ..)
 rintro g t (⟨rfl, rfl⟩ | ⟨j, j1, j2, rfl, rfl⟩)
 ·refine Step.viewM (viewKRR0z x n c A B M M2) ((key 0 h0).mono ?_)
  rintro e' t ⟨rfl, rfl⟩
  exact .inl ⟨rfl, m - 1, by omega, .inr ⟨0 + 1, by omega, by omega, by omega, rfl⟩⟩
 ·by_cases hj : j = m
  ·subst hj
   obtain ⟨i, rfl⟩ : ∃ i, j = i + 1 := ⟨j - 1, by omega⟩
   refine (Step.stdT (s0 := sKERR0z x n c A B M M2) sw.pg K0_ok (B := BK) (g := hKRR0z x n A B (ups M (i + 1)) M2) (kxRR0z x n c A B vKRR0z (ups M (i + 1)) M2 (i + 1) rd) ⟨trivial, by rw [hm]; simp only [nI, decide_eq_false_iff_not]; omega⟩ (Nat.le_refl _) (tmKRR0z_dead (n := n) (c := c) (VK_dead vKRR0z_dead) lvK) (hKRR0z_ok _ _ _ _ _ _) rfl (koRR0z ..)).mono ?_
   rintro e' t ⟨rfl, rfl⟩
   exact .inr ⟨(by intro x; cases x), rfl, rfl⟩
  ·refine (key j (by omega)).mono ?_
   rintro e' t ⟨rfl, rfl⟩
   exact .inl ⟨rfl, m - (j + 1), by omega, .inr ⟨j + 1, by omega, by omega, by omega, rfl⟩⟩
def JKRR1z (i : Nat) : Bool := (Nat.ble 0 i && Nat.ble i 1) || Nat.beq i 8 || Nat.beq i 10 || (Nat.ble 31 i && Nat.ble i 40) || (Nat.ble 42 i && Nat.ble i 47) || (Nat.ble 50 i && Nat.ble i 51) || (Nat.ble 53 i && Nat.ble i 54) || (Nat.ble 56 i && Nat.ble i 57) || (Nat.ble 59 i && Nat.ble i 65) || (Nat.ble 67 i && Nat.ble i 90)
def vKRR1z : VF := fun i => match JKRR1z i with
 | true => junk
 | false => match (Nat.beq i 48 || Nat.beq i 66) with
  | true => .agg #[junk, junk]
  | false => match (Nat.beq i 49 || Nat.beq i 52) || (Nat.beq i 55 || Nat.beq i 58) with
   | true => .tuple #[junk, junk]
   | false => undef
theorem vKRR1z_dead (i : Nat) : DeadV (vKRR1z i) := by
 unfold vKRR1z
 split
 ·exact DeadV.junk
 ·split
  ·exact ⟨rfl, fun _ => rfl, fun _ => rfl⟩
  ·split
   ·exact ⟨rfl, fun _ => rfl, fun _ => rfl⟩
   ·exact DeadV.undef
theorem knRR1z (x : Acts) (n c : Nat) (A B : Sd) (v : VF) (M M2 : List Int) (j : Nat) (rd : Option Nat) : goK (sKRR1z x n c A B v M M2 j) rd oK (sKRR1z x n c A B (VK v) (up M j) M2 (j + 1)) = some (.normal, pJJ B.y.n M j, seenAsT BK (sKRR1z x n c A B (VK v) (up M j) M2 (j + 1)) [] 106) := by kernel_rfl
theorem kxRR1z (x : Acts) (n c : Nat) (A B : Sd) (v : VF) (M M2 : List Int) (j : Nat) (rd : Option Nat) : goK (sKRR1z x n c A B (VK v) M M2 j) rd [none, F] (sKRR1z x n c A B (VK v) M M2 j) = some (.exit 2, True /\ decide (nI j < nI (0 + B.y.n)) = false, seenAsT BK (sKRR1z x n c A B (VK v) M M2 j) [] 106) := by kernel_rfl
theorem koRR1z (tE : List Value) (gE : Nat -> Option Ob) (x : Acts) (n c : Nat) (A B : Sd) (v : VF) (M M2 : List Int) (j : Nat) : picOkT BK (⟨tE, [], Tr.rebuild gE 106, 106, 2, [], fun _ => false, True, []⟩ : St) (sKRR1z x n c A B (VK v) M M2 j) [] = true := by kernel_rfl
def tKERR1z (n c : Nat) (A B : Sd) : List Value := (junk :: junk :: E0 :: rp undef 3 (.bool false :: .pointer (some ⟨7, 0, none⟩) :: junk :: .int .i64 0 :: junk :: .int .i64 0 :: .slice (some ⟨104, 0, none⟩) 2 2 :: .pointer (some ⟨105, 0, none⟩) :: .int .i64 1 :: .int .i64 0 :: rp undef 15 (rp junk 10 (undef :: rp junk 6 (.agg #[junk, junk] :: .tuple #[junk, junk] :: junk :: junk :: .tuple #[junk, junk] :: junk :: junk :: .tuple #[junk, junk] :: junk :: junk :: .tuple #[junk, junk] :: rp junk 7 (.agg #[junk, junk] :: rp junk 24 (rp undef 170 [])))))))
def sKERR1z (x : Acts) (n c : Nat) (A B : Sd) (M M2 : List Int) : St := ⟨tKERR1z n c A B, [], Tr.rebuild (hKRR1z x n A B M M2) 106, 106, 2, [], fun _ => false, True, []⟩
theorem seeKRR1z (x : Acts) (n c : Nat) (A B : Sd) (M M2 : List Int) : seenInT allB (sKERR1z x n c A B M M2) (sKRR1z x n c A B vKRR1z M M2 0) [] = seenAsT allB (sKRR1z x n c A B vKRR1z M M2 0) [] 106 := by kernel_rfl
theorem viewKRR1z (x : Acts) (n c : Nat) (A B : Sd) (M M2 : List Int) : ViewM (sKERR1z x n c A B M M2) (sKERR1z x n c A B M M2) (sKRR1z x n c A B vKRR1z M M2 0) (nm []) :=
 ViewM.stdT (f := hKRR1z x n A B M M2) (tmKRR1z_dead (n := n) (c := c) vKRR1z_dead (fun _ _ => rfl)) (hKRR1z_ok _ _ _ _ _ _) rfl (by kernel_rfl) (seeKRR1z x n c A B M M2)
theorem loopKRR1z (x : Acts) (n c : Nat) (A B : Sd) (M M2 : List Int) (m : Nat) (hm : B.y.n = m) (h0 : 0 < m) (h100 : m <= 1000) (hM : M.length = m) (rd : Option Nat) :
  CodeOk Try.prog rd (.loop lk) (sKERR1z x n c A B M M2) (.exit 2) (sKRR1z x n c A B (VK vKRR1z) (ups M m) M2 m) := by
 have hvj : ∀ j i, DeadV (vk vKRR1z j i) := fun j i => by
  cases j with
  | zero => exact vKRR1z_dead i
  | succ j => exact VK_dead vKRR1z_dead i
 refine CodeOk.of_step (Step.loop (fun g t => (g = m + 1 /\ t = sKERR1z x n c A B M M2) ∨ ∃ j, 1 <= j /\ j <= m /\ g = m - j /\ t = sKRR1z x n c A B (vk vKRR1z j) (ups M j) M2 j) ?_ (m + 1) _ (.inl ⟨rfl, rfl⟩))
 have key : ∀ j, j < m -> Step Try.prog rd (sKERR1z x n c A B M M2) lk (sKRR1z x n c A B (vk vKRR1z j) (ups M j) M2 j) (fun e t => e = .normal /\ t = sKRR1z x n c A B (vk vKRR1z (j + 1)) (ups M (j + 1)) M2 (j + 1)) := fun j hj => by
  have e1 : vk vKRR1z (j + 1) = VK (vk vKRR1z j) := by
   cases j with
   | zero => rfl
   | succ j => exact (VK2 _).symm
  rw [e1]
  exact Step.stdT (s0 := sKERR1z x n c A B M M2) sw.pg K0_ok (B := BK) (g := hKRR1z x n A B (up (ups M j) j) M2) (knRR1z x n c A B (vk vKRR1z j) (ups M j) M2 j rd) (by rw [hm]; exact pJJ_ok hj (by rw [ups_len]; exact hM) h100) (Nat.le_refl _) (tmKRR1z_dead (n := n) (c := c) (VK_dead (hvj j)) lvK) (hKRR1z_ok _ _ _ _ _ _) rfl (koRR1z ..)
 rintro g t (⟨rfl, rfl⟩ | ⟨j, j1, j2, rfl, rfl⟩)
 ·refine Step.viewM (viewKRR1z x n c A B M M2) ((key 0 h0).mono ?_)
  rintro e' t ⟨rfl, rfl⟩
  exact .inl ⟨rfl, m - 1, by omega, .inr ⟨0 + 1, by omega, by omega, by omega, rfl⟩⟩
 ·by_cases hj : j = m
  ·subst hj
   obtain ⟨i, rfl⟩ : ∃ i, j = i + 1 := ⟨j - 1, by omega⟩
   refine (Step.stdT (s0 := sKERR1z x n c A B M M2) sw.pg K0_ok (B := BK) (g := hKRR1z x n A B (ups M (i + 1)) M2) (kxRR1z x n c A B vKRR1z (ups M (i + 1)) M2 (i + 1) rd) ⟨trivial, by rw [hm]; simp only [nI, decide_eq_false_iff_not]; omega⟩ (Nat.le_refl _) (tmKRR1z_dead (n := n) (c := c) (VK_dead vKRR1z_dead) lvK) (hKRR1z_ok _ _ _ _ _ _) rfl (koRR1z ..)).mono ?_
   rintro e' t ⟨rfl, rfl⟩
   exact .inr ⟨(by intro x; cases x), rfl, rfl⟩
  ·refine (key j (by omega)).mono ?_
   rintro e' t ⟨rfl, rfl⟩
   exact .inl ⟨rfl, m - (j + 1), by omega, .inr ⟨j + 1, by omega, by omega, by omega, rfl⟩⟩
theorem ref11n (x : Acts) (y : hq.KY) (hn : y.n = (hq.WK x y).length) (h1 : y.n <= 1000) : CallOk Try.prog 11 [hq.kv y, .slice none 0 0] (smSt 1 [some (.fam x.F)] []) (hy.outV (hq.tgN (hq.WK x y) [])) (smSt 1 (hq.h11e x) []) := by
 have h := hq.ref11e x y hn h1
 intro ho m ρ w args' hs ha
 refine h ho m ρ w args' hs ?_
 obtain ⟨a, r, rfl, ha1, hr⟩ := ha.inv_cons
 obtain ⟨b, r2, rfl, hb1, hr2⟩ := hr.inv_cons
 obtain rfl := hr2.inv_nil
 have hfam : (smSt 1 [some (.fam x.F)] []).heap.get 0 = some (.fam x.F) := rfl
 obtain ⟨d0, _⟩ := hs.ob 0 _ hfam
 refine VL.cons ha1 (VL.cons ?_ VL.nil)
 cases hb1 with
 | same _ => exact .abs d0 rfl AbsOk.none
def zs (b c : Nat) : Value := .slice (some ⟨b, 0, none⟩) 0 c
def nl : Value := .slice none 0 0
def RN (k : Nat) : List (Option Ob) := List.replicate k none
def cl11 (D : hd.DT) (A : hd.AT) (E : hd.ET) (u : Value) (k : Nat) : Option (Value × Go.Cln.St) := (mk Try.prog (ka.KTa ha.kb (xorI .u8) D A E) 300).call 11 [u, nl] (smSt k (List.replicate k none) [])
def P11 (D : hd.DT) : Prop := (True /\ hd.b22 D (hd.xl (ha.kb []) 54) 64) /\ hd.b22 D (hd.xl (ha.kb []) 92 ++ hy.ot1 (D (hd.xl (ha.kb []) 54))) 84
theorem P11_ok : P11 hz.shaN := by
 refine ⟨⟨trivial, rfl, ?_, by omega, by omega⟩, rfl, ?_, by omega, by omega⟩
 ·rw [hd.xl_len]
 ·rw [List.length_append, hd.xl_len, hd.ot_len]
theorem eX : hd.tgD ha.kb hz.shaN [] (hd.xl (ha.kb []) 54) = hq.tgN [] [] := by
 show _ = hd.tgD ha.kb hz.shaN [] (hd.xl (ha.kb []) 54 ++ [])
 rw [List.append_nil]
theorem n11n (D : hd.DT) (A : hd.AT) (E : hd.ET) : (cl11 D A E nl 0).map (fun r => (r.1, r.2.obl, r.2.next, keepL (List.replicate 312 false) r.2.heap.get 0)) = some (hy.outV (hd.tgD ha.kb D [] (hd.xl (ha.kb []) 54)), P11 D, (RN 312).length, RN 312) := by kernel_rfl
theorem t11n : CallOk Try.prog 11 [nl, nl] (smSt 0 (RN 0) []) (hy.outV (hq.tgN [] [])) (smSt 0 (RN 312) []) := by
 have := frame_by sw.pg (ka.KTa_ok ha.kb hz.shaN hz.AB hz.DS) _ (n11n hz.shaN hz.AB hz.DS) P11_ok (by rfl) rfl
 rw [eX] at this
 exact this
theorem n11z (D : hd.DT) (A : hd.AT) (E : hd.ET) (c : Nat) : (cl11 D A E (zs 0 c) 1).map (fun r => (r.1, r.2.obl, r.2.next, keepL (List.replicate 313 false) r.2.heap.get 0)) = some (hy.outV (hd.tgD ha.kb D [] (hd.xl (ha.kb []) 54)), P11 D, (RN 313).length, RN 313) := by kernel_rfl
theorem t11z (c : Nat) : CallOk Try.prog 11 [zs 0 c, nl] (smSt 1 (RN 1) []) (hy.outV (hq.tgN [] [])) (smSt 1 (RN 313) []) := by
 have := frame_by sw.pg (ka.KTa_ok ha.kb hz.shaN hz.AB hz.DS) _ (n11z hz.shaN hz.AB hz.DS c) P11_ok (by rfl) rfl
 rw [eX] at this
 exact this
theorem n16z (c : Nat) : ((mk Try.prog Given.nothing 300).call 16 [zs 0 c] (smSt 1 (RN 1) [])).map (fun r => (r.1, r.2.obl, r.2.next, keepL (List.replicate 5 false) r.2.heap.get 0)) = some (.tuple #[ha.bV ha.Z64, .int .i64 0], True, (RN 5).length, RN 5) := by kernel_rfl
theorem t16z (c : Nat) : CallOk Try.prog 16 [zs 0 c] (smSt 1 (RN 1) []) (.tuple #[ha.bV (ha.kb []), .int .i64 0]) (smSt 1 (RN 5) []) := by
 rw [ha.kb_nil]
 exact frame_by sw.pg (GivenOk.nothing _) _ (n16z c) trivial (by rfl) rfl
theorem noH {k j : Nat} {ob : Ob} (h : (RN k)[j]? = some (some ob)) : False := by
 unfold RN at h
 rw [List.getElem?_replicate] at h
 split at h <;> simp at h
def FN (x : Acts) (KF : hd.KT') (TG : hq.TGf) (f : FuncId) (args : List Value) (s : Go.Cln.St) : Option Inst := if f == 11 then match args with
 | [.slice (some ⟨Q, 0, some 1000⟩) n c, .slice none 0 0] => match s.heap.get 0 with
  | some (.fam Fm) => some ⟨[(0, 0)], 1, [some (.fam Fm)], [.slice (some ⟨Q, 0, some 1000⟩) n c, .slice none 0 0], hy.outV (TG (hq.WK x ⟨Q, n, c⟩) []), some (.fam Fm) :: ha.nn 338, TG = hq.tgN /\ Fm = x.F /\ n = (hq.WK x ⟨Q, n, c⟩).length /\ n <= 1000⟩
  | _ => none
 | [.slice none 0 0, .slice none 0 0] => some ⟨[], 0, RN 0, [nl, nl], hy.outV (TG [] []), RN 312, TG = hq.tgN⟩
 | [.slice (some ⟨b, o, none⟩) 0 c, .slice none 0 0] => some ⟨[(b, o)], 1, RN 1, [zs 0 c, nl], hy.outV (TG [] []), RN 313, TG = hq.tgN⟩
 | _ => none
 else if f == 16 then match args with
 | [.slice (some ⟨b, o, none⟩) 0 c] => some ⟨[(b, o)], 1, RN 1, [zs 0 c], .tuple #[ha.bV (KF []), .int .i64 0], RN 5, KF = ha.kb⟩
 | _ => none
 else none
theorem FN_ok (x : Acts) (KF : hd.KT') (TG : hq.TGf) (f : FuncId) (args : List Value) (s : Go.Cln.St) (i : Inst) (h : FN x KF TG f args s = some i) : Fits s i args /\ (i.ask -> CallOk Try.prog f i.args i.s0 i.val i.s1) := by
 unfold FN at h
 split at h
 ·rename_i hf
  have hf' : f = 11 := by simpa using hf
  subst hf'
  split at h
  ·rename_i Q n c
   split at h
   ·rename_i Fm hF
    cases h
    refine ⟨⟨rfl, fun j pp ob h1 h2 => ?_⟩, fun ha' => ?_⟩
    ·rcases j with _ | j
     ·simp only [List.getElem?_cons_zero, Option.some.injEq] at h1
      subst h1
      simp only [List.getElem?_cons_zero, Option.some.injEq] at h2
      subst h2
      exact ⟨_, hF, fun _ _ _ _ hx => hx⟩
     ·simp at h1
    ·obtain ⟨rfl, rfl, q1, q2⟩ := ha'
     exact ref11n x ⟨Q, n, c⟩ q1 q2
   ·cases h
  ·cases h
   exact ⟨⟨rfl, fun j pp ob h1 h2 => (noH h2).elim⟩, fun ha => by cases (show TG = hq.tgN from ha); exact t11n⟩
  ·rename_i b o c
   cases h
   refine ⟨⟨?_, fun j pp ob h1 h2 => (noH h2).elim⟩, fun ha => by cases (show TG = hq.tgN from ha); exact t11z c⟩
   show [Value.slice (some ⟨b, o, none⟩) 0 c, nl] = [Value.slice (some ⟨b, addO o 0, none⟩) 0 c, nl]
   rw [addO_eq]; rfl
  ·cases h
 ·split at h
  ·rename_i hf
   have hf' : f = 16 := by simpa using hf
   subst hf'
   split at h
   ·rename_i b o c
    cases h
    refine ⟨⟨?_, fun j pp ob h1 h2 => (noH h2).elim⟩, fun hk => by cases (show KF = ha.kb from hk); exact t16z c⟩
    show [Value.slice (some ⟨b, o, none⟩) 0 c] = [Value.slice (some ⟨b, addO o 0, none⟩) 0 c]
    rw [addO_eq]; rfl
   ·cases h
  ·cases h
def FZ (x : Acts) (KF : hd.KT') (A : hd.AT) (TT : hq.TTf) (TG : hq.TGf) (f : FuncId) (args : List Value) (s : Go.Cln.St) : Option Inst := match FN x KF TG f args s with
 | some i => some i
 | none => hq.FT x KF A TT TG f args s
theorem FZ_ok (x : Acts) (KF : hd.KT') (A : hd.AT) (TT : hq.TTf) (TG : hq.TGf) (f : FuncId) (args : List Value) (s : Go.Cln.St) (i : Inst) (h : FZ x KF A TT TG f args s = some i) : Fits s i args /\ (i.ask -> CallOk Try.prog f i.args i.s0 i.val i.s1) := by
 unfold FZ at h
 split at h
 ·rename_i j h1
  cases h; exact FN_ok x KF TG f args s _ h1
 ·exact hq.FT_ok x KF A TT TG f args s _ h
def KZ (x : Acts) (KF : hd.KT') (A : hd.AT) (TT : hq.TTf) (TG : hq.TGf) : Given := { Given.frames (Given.calls (hd.FP (xorI .u8))) (FZ x KF A TT TG) with fits := true }
theorem KZ_ok (x : Acts) (KF : hd.KT') (A : hd.AT) (TT : hq.TTf) (TG : hq.TGf) : GivenOk Try.prog (KZ x KF A TT TG) := frames_fits (hd.FP_ok.frames (FZ_ok x KF A TT TG)) true
def callE (K : Given) (u v w : Value) (k : Nat) (o : List (Option Bool)) : Option (Value × Prop) := ((mk Try.prog K 300).call 3 [u, v, w] (St.start k .leaf o)).map (fun r => (r.1, r.2.obl))
def callW (x : Acts) (y1 y2 : hq.KY) (K : Given) (o : List (Option Bool)) : Option (Value × Prop) := ((mk Try.prog K 300).call 3 [hq.kv y1, hq.kv y2, E0] (smSt 2 [some (.fam x.F), none] o)).map (fun r => (r.1, r.2.obl))
def FY (x : Acts) (KF : hd.KT') (A : hd.AT) (TT : hq.TTf) (TG : hq.TGf) (f : FuncId) (args : List Value) (s : Go.Cln.St) : Option Inst := match hq.FT x KF A TT TG f args s with
 | some i => some i
 | none => FN x KF TG f args s
theorem FY_ok (x : Acts) (KF : hd.KT') (A : hd.AT) (TT : hq.TTf) (TG : hq.TGf) (f : FuncId) (args : List Value) (s : Go.Cln.St) (i : Inst) (h : FY x KF A TT TG f args s = some i) : Fits s i args /\ (i.ask -> CallOk Try.prog f i.args i.s0 i.val i.s1) := by
 unfold FY at h
 split at h
 ·rename_i j h1
  cases h; exact hq.FT_ok x KF A TT TG f args s _ h1
 ·exact FN_ok x KF TG f args s _ h
def KY (x : Acts) (KF : hd.KT') (A : hd.AT) (TT : hq.TTf) (TG : hq.TGf) : Given := { Given.frames (Given.calls (hd.FP (xorI .u8))) (FY x KF A TT TG) with fits := true }
theorem KY_ok (x : Acts) (KF : hd.KT') (A : hd.AT) (TT : hq.TTf) (TG : hq.TGf) : GivenOk Try.prog (KY x KF A TT TG) := frames_fits (hd.FP_ok.frames (FY_ok x KF A TT TG)) true
def askzEE (X0 X1 : St) (f : FuncId) (c : Code) (s : Go.Cln.St) : Option Ask2 := if f == 3 then match getL s.tmps 17 with
 | .int _ _ => none
 | _ => match getL s.tmps 15 with
  | .int _ _ => match getL s.tmps 14 with
   | .int _ z => if z == 0 then none else none
   | _ => none
  | _ => none
 else none
def KZEE (x : Acts) (KF : hd.KT') (Aw : hd.AT) (TT : hq.TTf) (TG : hq.TGf) (X0 X1 : St) : Given := Given.asking2 (KY x KF Aw TT TG) Try.prog (askzEE X0 X1)
theorem KZEE_ok (x : Acts) (KF : hd.KT') (Aw : hd.AT) (TT : hq.TTf) (TG : hq.TGf) (X0 X1 : St) : GivenOk Try.prog (KZEE x KF Aw TT TG X0 X1) := (KY_ok x KF Aw TT TG).asking2 _
def askzRE (X0 X1 : St) (f : FuncId) (c : Code) (s : Go.Cln.St) : Option Ask2 := if f == 3 then match getL s.tmps 17 with
 | .int _ _ => none
 | _ => match getL s.tmps 15 with
  | .int _ _ => match getL s.tmps 14 with
   | .int _ z => if z == 0 then some ⟨⟨[0, 1, 8, 10, 31, 32, 33, 34, 35, 36, 37, 38, 39, 40, 42, 43, 44, 45, 46, 47, 50, 51, 53, 54, 56, 57, 59, 60, 61, 62, 63, 64, 65, 67, 68], [], [], [2, 3, 5, 7, 8, 9, 10, 11, 12, 13, 14, 15, 16, 17, 18, 19, 20, 21, 22, 23, 24, 25, 26, 27, 28, 29, 30, 31, 32, 33, 34, 35, 36, 37, 38, 39, 40, 41, 42, 43, 45, 46, 47, 48, 49, 50, 51, 52, 53, 55, 56, 57, 58, 59, 60, 61, 62, 63, 64, 65, 66, 67, 68, 69, 70, 71, 72, 73, 74, 75, 76, 77, 78, 79, 80, 81, 82, 83, 84, 85, 86, 87, 88, 89, 90, 91, 92, 94, 95, 96, 97, 98, 99, 100, 101, 102]⟩, .exit 2, fun _ => X0⟩ else none
   | _ => none
  | _ => none
 else none
def KZRE (x : Acts) (KF : hd.KT') (Aw : hd.AT) (TT : hq.TTf) (TG : hq.TGf) (X0 X1 : St) : Given := Given.asking2 (KY x KF Aw TT TG) Try.prog (askzRE X0 X1)
theorem KZRE_ok (x : Acts) (KF : hd.KT') (Aw : hd.AT) (TT : hq.TTf) (TG : hq.TGf) (X0 X1 : St) : GivenOk Try.prog (KZRE x KF Aw TT TG X0 X1) := (KY_ok x KF Aw TT TG).asking2 _
def askzER (X0 X1 : St) (f : FuncId) (c : Code) (s : Go.Cln.St) : Option Ask2 := if f == 3 then match getL s.tmps 17 with
 | .int _ _ => none
 | _ => match getL s.tmps 15 with
  | .int _ _ => match getL s.tmps 14 with
   | .int _ z => if z == 0 then none else some ⟨⟨[0, 1, 8, 10, 31, 32, 33, 34, 35, 36, 37, 38, 39, 40, 42, 43, 44, 45, 46, 47, 50, 51, 53, 54, 56, 57, 59, 60, 61, 62, 63, 64, 65, 67, 68, 69, 70, 71, 72, 73, 74, 75, 76], [], [], [2, 3, 4, 7, 8, 9, 10, 11, 12, 13, 14, 15, 16, 17, 18, 19, 20, 21, 22, 23, 24, 25, 26, 27, 28, 29, 30, 31, 32, 33, 34, 35, 36, 37, 38, 39, 40, 41, 42, 43, 44, 46, 47, 48, 49, 50, 51, 52, 53, 54, 56, 57, 58, 59, 60, 61, 62, 63, 64, 65, 66, 67, 68, 69, 70, 71, 72, 73, 74, 75, 76, 77, 78, 79, 80, 81, 82, 83, 84, 85, 86, 87, 88, 89, 90, 91, 92, 94, 95, 96, 97, 98, 99, 100, 101, 102]⟩, .exit 2, fun _ => X1⟩
   | _ => none
  | _ => none
 else none
def KZER (x : Acts) (KF : hd.KT') (Aw : hd.AT) (TT : hq.TTf) (TG : hq.TGf) (X0 X1 : St) : Given := Given.asking2 (KY x KF Aw TT TG) Try.prog (askzER X0 X1)
theorem KZER_ok (x : Acts) (KF : hd.KT') (Aw : hd.AT) (TT : hq.TTf) (TG : hq.TGf) (X0 X1 : St) : GivenOk Try.prog (KZER x KF Aw TT TG X0 X1) := (KY_ok x KF Aw TT TG).asking2 _
def askzRR (X0 X1 : St) (f : FuncId) (c : Code) (s : Go.Cln.St) : Option Ask2 := if f == 3 then match getL s.tmps 17 with
 | .int _ _ => none
 | _ => match getL s.tmps 15 with
  | .int _ _ => match getL s.tmps 14 with
   | .int _ z => if z == 0 then some ⟨⟨[0, 1, 8, 10, 31, 32, 33, 34, 35, 36, 37, 38, 39, 40, 42, 43, 44, 45, 46, 47, 50, 51, 53, 54, 56, 57, 59, 60, 61, 62, 63, 64, 65, 67, 68], [], [], [2, 3, 5, 8, 9, 10, 11, 12, 13, 14, 15, 16, 17, 18, 19, 20, 21, 22, 23, 24, 25, 26, 27, 28, 29, 30, 31, 32, 33, 34, 35, 36, 37, 38, 39, 40, 41, 42, 43, 44, 46, 47, 48, 49, 50, 51, 52, 53, 54, 56, 57, 58, 59, 60, 61, 62, 63, 64, 65, 66, 67, 68, 69, 70, 71, 72, 73, 74, 75, 76, 77, 78, 79, 80, 81, 82, 83, 84, 85, 86, 87, 88, 89, 90, 91, 92, 94, 95, 96, 97, 98, 99, 100, 101, 102]⟩, .exit 2, fun _ => X0⟩ else some ⟨⟨[0, 1, 8, 10, 31, 32, 33, 34, 35, 36, 37, 38, 39, 40, 42, 43, 44, 45, 46, 47, 50, 51, 53, 54, 56, 57, 59, 60, 61, 62, 63, 64, 65, 67, 68, 69, 70, 71, 72, 73, 74, 75, 76, 77, 78, 79, 80, 81, 82, 83, 84, 85, 86, 87, 88, 89, 90], [], [], [2, 3, 4, 5, 8, 9, 10, 11, 12, 13, 14, 15, 16, 17, 18, 19, 20, 21, 22, 23, 24, 25, 26, 27, 28, 29, 30, 31, 32, 33, 34, 35, 36, 37, 38, 39, 40, 41, 42, 43, 44, 46, 47, 48, 49, 50, 51, 52, 53, 54, 56, 57, 58, 59, 60, 61, 62, 63, 64, 65, 66, 67, 68, 69, 70, 71, 72, 73, 74, 75, 76, 77, 78, 79, 80, 81, 82, 83, 84, 85, 86, 87, 88, 89, 90, 91, 92, 94, 95, 96, 97, 98, 99, 100, 101, 102]⟩, .exit 2, fun _ => X1⟩
   | _ => none
  | _ => none
 else none
def KZRR (x : Acts) (KF : hd.KT') (Aw : hd.AT) (TT : hq.TTf) (TG : hq.TGf) (X0 X1 : St) : Given := Given.asking2 (KY x KF Aw TT TG) Try.prog (askzRR X0 X1)
theorem KZRR_ok (x : Acts) (KF : hd.KT') (Aw : hd.AT) (TT : hq.TTf) (TG : hq.TGf) (X0 X1 : St) : GivenOk Try.prog (KZRR x KF Aw TT TG X0 X1) := (KY_ok x KF Aw TT TG).asking2 _
def LWEE (x : Acts) (y1 y2 : hq.KY) (KF : hd.KT') (Aw : hd.AT) (TT : hq.TTf) (TG : hq.TGf) : Prop := ((E20 ((E20 (((((((((((((((True /\ decide (nI y1.n > 500) = false) /\ decide (nI y2.n > 500) = false) /\ decide (0 + y1.n <= 0) = true) /\ ((y1.n = 0 ∨ 0 + y1.n <= (x.D y1.Q).length) /\ 0 + 0 + y1.n <= ([] : List Int).length)) /\ decide (0 + y2.n <= 0) = true) /\ ((y2.n = 0 ∨ 0 + y2.n <= (x.D y2.Q).length) /\ 0 + 0 + y2.n <= ([] : List Int).length)) /\ askKE KF (KE x y1) y1.n) /\ hd.w36 Aw hz.l0 (hd.xl (KF (KE x y1)) 54) 64 64) /\ askKE KF (KE x y2) y2.n) /\ hd.w36 Aw hz.l0 (hd.xl (KF (KE x y2)) 54) 64 64) /\ decide ((0 : Int) < nI (0 + y1.n)) = false) /\ decide ((0 : Int) < nI (0 + y2.n)) = false) /\ askTT TT (zI KF Aw (KE x y1) y1)) /\ askTT TT (zI KF Aw (KE x y2) y2)) /\ askT0 TG x (zI KF Aw (KE x y1) y1)) (TT (rowV .u8 64 (hx.ch (zI KF Aw (KE x y1) y1).w)) (hz.cH (zI KF Aw (KE x y1) y1).h (zI KF Aw (KE x y1) y1).z)) (TG (hq.WK x y1) [])) /\ askT0 TG x (zI KF Aw (KE x y2) y2)) (TT (rowV .u8 64 (hx.ch (zI KF Aw (KE x y2) y2).w)) (hz.cH (zI KF Aw (KE x y2) y2).h (zI KF Aw (KE x y2) y2).z)) (TG (hq.WK x y2) [])) /\ True)
theorem lawWEE (x : Acts) (y1 y2 : hq.KY) (KF : hd.KT') (Aw : hd.AT) (TT : hq.TTf) (TG : hq.TGf) : callW x y1 y2 (KZEE x KF Aw TT TG (sE [] fun _ => none) (sE [] fun _ => none)) (none :: none :: F :: no 3 (F :: no 7 (T :: T :: no 8 (F :: no 3 (F :: no 25 (ty 20 (no 10 (ty 20 [])))))))) = some (.bool true, LWEE x y1 y2 KF Aw TT TG) := by kernel_rfl
theorem okWEE {x : Acts} {y1 y2 : hq.KY} (hy1 : KeyOk x y1) (hy2 : KeyOk x y2) (h51 : y1.n <= 500) (h52 : y2.n <= 500) (zy1 : y1.n = 0) (zy2 : y2.n = 0) : LWEE x y1 y2 ha.kb hz.AB hq.TT0 hq.tgN := by
 have hA := sideI hy1 (KE_eq hy1 zy1) h51
 have hB := sideI hy2 (KE_eq hy2 zy2) h52
 exact (by refine ⟨(e20 ⟨(e20 ⟨⟨⟨⟨⟨⟨⟨⟨⟨⟨⟨⟨⟨⟨⟨trivial, ?_⟩, ?_⟩, ?_⟩, ⟨mem_of hy1, ?_⟩⟩, ?_⟩, ⟨mem_of hy2, ?_⟩⟩, (aKE hy1 zy1)⟩, (w36_ok _)⟩, (aKE hy2 zy2)⟩, (w36_ok _)⟩, ?_⟩, ?_⟩, (aTT hA (by omega))⟩, (aTT hB (by omega))⟩, (aT0 hA)⟩ (tag_nil hA (by omega))), (aT0 hB)⟩ (tag_nil hB (by omega))), trivial⟩ <;> first | omega | simp [nI, mostBytes] <;> omega)
def LWRE (x : Acts) (y1 y2 : hq.KY) (KF : hd.KT') (Aw : hd.AT) (TT : hq.TTf) (TG : hq.TGf) : Prop := ((E20 ((E20 (((((((((((((((True /\ decide (nI y1.n > 500) = false) /\ decide (nI y2.n > 500) = false) /\ decide (0 + y1.n <= 0) = false) /\ ((y1.n = 0 ∨ 0 + y1.n <= (x.D y1.Q).length) /\ 0 + 0 <= ([] : List Int).length /\ (0 + y1.n) * 1 <= mostBytes /\ 0 + y1.n <= mostBytes)) /\ decide (0 + y2.n <= 0) = true) /\ ((y2.n = 0 ∨ 0 + y2.n <= (x.D y2.Q).length) /\ 0 + 0 + y2.n <= ([] : List Int).length)) /\ askKR KF (KR x y1) y1.n) /\ hd.w36 Aw hz.l0 (hd.xl (KF (KR x y1)) 54) 64 64) /\ askKE KF (KE x y2) y2.n) /\ hd.w36 Aw hz.l0 (hd.xl (KF (KE x y2)) 54) 64 64) /\ (∀ rd, CodeOk Try.prog rd (.loop lk) (sKERE0z x 0 0 (zI KF Aw (KR x y1) y1) (zI KF Aw (KE x y2) y2) (hq.WK x y1) []) (.exit 2) (sKRE0z x 0 0 (zI KF Aw (KR x y1) y1) (zI KF Aw (KE x y2) y2) (VK vKRE0z) (ups (hq.WK x y1) y1.n) [] y1.n))) /\ decide ((0 : Int) < nI (0 + y2.n)) = false) /\ askTT TT (zI KF Aw (KR x y1) y1)) /\ askTT TT (zI KF Aw (KE x y2) y2)) /\ askT0 TG x (zI KF Aw (KR x y1) y1)) (TT (rowV .u8 64 (hx.ch (zI KF Aw (KR x y1) y1).w)) (hz.cH (zI KF Aw (KR x y1) y1).h (zI KF Aw (KR x y1) y1).z)) (TG (hq.WK x y1) [])) /\ askT0 TG x (zI KF Aw (KE x y2) y2)) (TT (rowV .u8 64 (hx.ch (zI KF Aw (KE x y2) y2).w)) (hz.cH (zI KF Aw (KE x y2) y2).h (zI KF Aw (KE x y2) y2).z)) (TG (hq.WK x y2) [])) /\ True)
theorem lawWRE (x : Acts) (y1 y2 : hq.KY) (KF : hd.KT') (Aw : hd.AT) (TT : hq.TTf) (TG : hq.TGf) : callW x y1 y2 (KZRE x KF Aw TT TG (sKRE0z x 0 0 (zI KF Aw (KR x y1) y1) (zI KF Aw (KE x y2) y2) (VK vKRE0z) (ups (hq.WK x y1) y1.n) [] y1.n) (sE [] fun _ => none)) (none :: none :: F :: no 3 (F :: no 7 (F :: T :: no 10 (F :: no 25 (ty 20 (no 10 (ty 20 []))))))) = some (.bool true, LWRE x y1 y2 KF Aw TT TG) := by kernel_rfl
theorem okWRE {x : Acts} {y1 y2 : hq.KY} (hy1 : KeyOk x y1) (hy2 : KeyOk x y2) (h51 : y1.n <= 500) (h52 : y2.n <= 500) (zy1 : y1.n ≠ 0) (zy2 : y2.n = 0) : LWRE x y1 y2 ha.kb hz.AB hq.TT0 hq.tgN := by
 have hA := sideI hy1 (KR_eq hy1) h51
 have hB := sideI hy2 (KE_eq hy2 zy2) h52
 exact (by refine ⟨(e20 ⟨(e20 ⟨⟨⟨⟨⟨⟨⟨⟨⟨⟨⟨⟨⟨⟨⟨trivial, ?_⟩, ?_⟩, ?_⟩, ⟨mem_of hy1, ?_⟩⟩, ?_⟩, ⟨mem_of hy2, ?_⟩⟩, (aKR' hy1 h51)⟩, (w36_ok _)⟩, (aKE hy2 zy2)⟩, (w36_ok _)⟩, (fun rd => loopKRE0z x 0 0 _ _ _ _ y1.n rfl (by omega) (by omega) hy1.kn.symm rd)⟩, ?_⟩, (aTT hA (by omega))⟩, (aTT hB (by omega))⟩, (aT0 hA)⟩ (tag_nil hA (by omega))), (aT0 hB)⟩ (tag_nil hB (by omega))), trivial⟩ <;> first | omega | simp [nI, mostBytes] <;> omega)
def LWER (x : Acts) (y1 y2 : hq.KY) (KF : hd.KT') (Aw : hd.AT) (TT : hq.TTf) (TG : hq.TGf) : Prop := ((E20 ((E20 (((((((((((((((True /\ decide (nI y1.n > 500) = false) /\ decide (nI y2.n > 500) = false) /\ decide (0 + y1.n <= 0) = true) /\ ((y1.n = 0 ∨ 0 + y1.n <= (x.D y1.Q).length) /\ 0 + 0 + y1.n <= ([] : List Int).length)) /\ decide (0 + y2.n <= 0) = false) /\ ((y2.n = 0 ∨ 0 + y2.n <= (x.D y2.Q).length) /\ 0 + 0 <= ([] : List Int).length /\ (0 + y2.n) * 1 <= mostBytes /\ 0 + y2.n <= mostBytes)) /\ askKE KF (KE x y1) y1.n) /\ hd.w36 Aw hz.l0 (hd.xl (KF (KE x y1)) 54) 64 64) /\ askKR KF (KR x y2) y2.n) /\ hd.w36 Aw hz.l0 (hd.xl (KF (KR x y2)) 54) 64 64) /\ decide ((0 : Int) < nI (0 + y1.n)) = false) /\ (∀ rd, CodeOk Try.prog rd (.loop lk) (sKEER1z x 0 0 (zI KF Aw (KE x y1) y1) (zI KF Aw (KR x y2) y2) (hq.WK x y2) []) (.exit 2) (sKER1z x 0 0 (zI KF Aw (KE x y1) y1) (zI KF Aw (KR x y2) y2) (VK vKER1z) (ups (hq.WK x y2) y2.n) [] y2.n))) /\ askTT TT (zI KF Aw (KE x y1) y1)) /\ askTT TT (zI KF Aw (KR x y2) y2)) /\ askT0 TG x (zI KF Aw (KE x y1) y1)) (TT (rowV .u8 64 (hx.ch (zI KF Aw (KE x y1) y1).w)) (hz.cH (zI KF Aw (KE x y1) y1).h (zI KF Aw (KE x y1) y1).z)) (TG (hq.WK x y1) [])) /\ askT0 TG x (zI KF Aw (KR x y2) y2)) (TT (rowV .u8 64 (hx.ch (zI KF Aw (KR x y2) y2).w)) (hz.cH (zI KF Aw (KR x y2) y2).h (zI KF Aw (KR x y2) y2).z)) (TG (hq.WK x y2) [])) /\ True)
theorem lawWER (x : Acts) (y1 y2 : hq.KY) (KF : hd.KT') (Aw : hd.AT) (TT : hq.TTf) (TG : hq.TGf) : callW x y1 y2 (KZER x KF Aw TT TG (sE [] fun _ => none) (sKER1z x 0 0 (zI KF Aw (KE x y1) y1) (zI KF Aw (KR x y2) y2) (VK vKER1z) (ups (hq.WK x y2) y2.n) [] y2.n)) (none :: none :: F :: no 3 (F :: no 7 (T :: F :: no 8 (F :: no 27 (ty 20 (no 10 (ty 20 []))))))) = some (.bool true, LWER x y1 y2 KF Aw TT TG) := by kernel_rfl
theorem okWER {x : Acts} {y1 y2 : hq.KY} (hy1 : KeyOk x y1) (hy2 : KeyOk x y2) (h51 : y1.n <= 500) (h52 : y2.n <= 500) (zy1 : y1.n = 0) (zy2 : y2.n ≠ 0) : LWER x y1 y2 ha.kb hz.AB hq.TT0 hq.tgN := by
 have hA := sideI hy1 (KE_eq hy1 zy1) h51
 have hB := sideI hy2 (KR_eq hy2) h52
 exact (by refine ⟨(e20 ⟨(e20 ⟨⟨⟨⟨⟨⟨⟨⟨⟨⟨⟨⟨⟨⟨⟨trivial, ?_⟩, ?_⟩, ?_⟩, ⟨mem_of hy1, ?_⟩⟩, ?_⟩, ⟨mem_of hy2, ?_⟩⟩, (aKE hy1 zy1)⟩, (w36_ok _)⟩, (aKR' hy2 h52)⟩, (w36_ok _)⟩, ?_⟩, (fun rd => loopKER1z x 0 0 _ _ _ _ y2.n rfl (by omega) (by omega) hy2.kn.symm rd)⟩, (aTT hA (by omega))⟩, (aTT hB (by omega))⟩, (aT0 hA)⟩ (tag_nil hA (by omega))), (aT0 hB)⟩ (tag_nil hB (by omega))), trivial⟩ <;> first | omega | simp [nI, mostBytes] <;> omega)
def LWRR (x : Acts) (y1 y2 : hq.KY) (KF : hd.KT') (Aw : hd.AT) (TT : hq.TTf) (TG : hq.TGf) : Prop := ((E20 ((E20 (((((((((((((((True /\ decide (nI y1.n > 500) = false) /\ decide (nI y2.n > 500) = false) /\ decide (0 + y1.n <= 0) = false) /\ ((y1.n = 0 ∨ 0 + y1.n <= (x.D y1.Q).length) /\ 0 + 0 <= ([] : List Int).length /\ (0 + y1.n) * 1 <= mostBytes /\ 0 + y1.n <= mostBytes)) /\ decide (0 + y2.n <= 0) = false) /\ ((y2.n = 0 ∨ 0 + y2.n <= (x.D y2.Q).length) /\ 0 + 0 <= ([] : List Int).length /\ (0 + y2.n) * 1 <= mostBytes /\ 0 + y2.n <= mostBytes)) /\ askKR KF (KR x y1) y1.n) /\ hd.w36 Aw hz.l0 (hd.xl (KF (KR x y1)) 54) 64 64) /\ askKR KF (KR x y2) y2.n) /\ hd.w36 Aw hz.l0 (hd.xl (KF (KR x y2)) 54) 64 64) /\ (∀ rd, CodeOk Try.prog rd (.loop lk) (sKERR0z x 0 0 (zI KF Aw (KR x y1) y1) (zI KF Aw (KR x y2) y2) (hq.WK x y1) (hq.WK x y2)) (.exit 2) (sKRR0z x 0 0 (zI KF Aw (KR x y1) y1) (zI KF Aw (KR x y2) y2) (VK vKRR0z) (ups (hq.WK x y1) y1.n) (hq.WK x y2) y1.n))) /\ (∀ rd, CodeOk Try.prog rd (.loop lk) (sKERR1z x 0 0 (zI KF Aw (KR x y1) y1) (zI KF Aw (KR x y2) y2) (hq.WK x y2) []) (.exit 2) (sKRR1z x 0 0 (zI KF Aw (KR x y1) y1) (zI KF Aw (KR x y2) y2) (VK vKRR1z) (ups (hq.WK x y2) y2.n) [] y2.n))) /\ askTT TT (zI KF Aw (KR x y1) y1)) /\ askTT TT (zI KF Aw (KR x y2) y2)) /\ askT0 TG x (zI KF Aw (KR x y1) y1)) (TT (rowV .u8 64 (hx.ch (zI KF Aw (KR x y1) y1).w)) (hz.cH (zI KF Aw (KR x y1) y1).h (zI KF Aw (KR x y1) y1).z)) (TG (hq.WK x y1) [])) /\ askT0 TG x (zI KF Aw (KR x y2) y2)) (TT (rowV .u8 64 (hx.ch (zI KF Aw (KR x y2) y2).w)) (hz.cH (zI KF Aw (KR x y2) y2).h (zI KF Aw (KR x y2) y2).z)) (TG (hq.WK x y2) [])) /\ True)
theorem lawWRR (x : Acts) (y1 y2 : hq.KY) (KF : hd.KT') (Aw : hd.AT) (TT : hq.TTf) (TG : hq.TGf) : callW x y1 y2 (KZRR x KF Aw TT TG (sKRR0z x 0 0 (zI KF Aw (KR x y1) y1) (zI KF Aw (KR x y2) y2) (VK vKRR0z) (ups (hq.WK x y1) y1.n) (hq.WK x y2) y1.n) (sKRR1z x 0 0 (zI KF Aw (KR x y1) y1) (zI KF Aw (KR x y2) y2) (VK vKRR1z) (ups (hq.WK x y2) y2.n) [] y2.n)) (none :: none :: F :: no 3 (F :: no 7 (F :: F :: no 34 (ty 20 (no 10 (ty 20 [])))))) = some (.bool true, LWRR x y1 y2 KF Aw TT TG) := by kernel_rfl
theorem okWRR {x : Acts} {y1 y2 : hq.KY} (hy1 : KeyOk x y1) (hy2 : KeyOk x y2) (h51 : y1.n <= 500) (h52 : y2.n <= 500) (zy1 : y1.n ≠ 0) (zy2 : y2.n ≠ 0) : LWRR x y1 y2 ha.kb hz.AB hq.TT0 hq.tgN := by
 have hA := sideI hy1 (KR_eq hy1) h51
 have hB := sideI hy2 (KR_eq hy2) h52
 exact (by refine ⟨(e20 ⟨(e20 ⟨⟨⟨⟨⟨⟨⟨⟨⟨⟨⟨⟨⟨⟨⟨trivial, ?_⟩, ?_⟩, ?_⟩, ⟨mem_of hy1, ?_⟩⟩, ?_⟩, ⟨mem_of hy2, ?_⟩⟩, (aKR' hy1 h51)⟩, (w36_ok _)⟩, (aKR' hy2 h52)⟩, (w36_ok _)⟩, (fun rd => loopKRR0z x 0 0 _ _ _ _ y1.n rfl (by omega) (by omega) hy1.kn.symm rd)⟩, (fun rd => loopKRR1z x 0 0 _ _ _ _ y2.n rfl (by omega) (by omega) hy2.kn.symm rd)⟩, (aTT hA (by omega))⟩, (aTT hB (by omega))⟩, (aT0 hA)⟩ (tag_nil hA (by omega))), (aT0 hB)⟩ (tag_nil hB (by omega))), trivial⟩ <;> first | omega | simp [nI, mostBytes] <;> omega)
def x0 : Acts := ⟨fun _ => 0, fun _ => false, fun _ => 0, fun _ => 0, fun _ => 0, fun _ => []⟩
def y0 : hq.KY := ⟨0, 0, 0⟩
theorem k0 : KeyOk x0 y0 := ⟨(fun _ hz => by cases (show _ ∈ ([] : List Int) from hz)), rfl⟩
def LE (KF : hd.KT') (Aw : hd.AT) (TT : hq.TTf) (TG : hq.TGf) : Prop := ((E20 ((E20 (((((((True /\ KF = ha.kb) /\ hd.w36 Aw hz.l0 (hd.xl (KF []) 54) 64 64) /\ KF = ha.kb) /\ hd.w36 Aw hz.l0 (hd.xl (KF []) 54) 64 64) /\ askTT TT (zI KF Aw [] y0)) /\ askTT TT (zI KF Aw [] y0)) /\ TG = hq.tgN) (TT (rowV .u8 64 (hx.ch (zI KF Aw [] y0).w)) (hz.cH (zI KF Aw [] y0).h (zI KF Aw [] y0).z)) (TG [] [])) /\ TG = hq.tgN) (TT (rowV .u8 64 (hx.ch (zI KF Aw [] y0).w)) (hz.cH (zI KF Aw [] y0).h (zI KF Aw [] y0).z)) (TG [] [])) /\ True)
theorem okE : LE ha.kb hz.AB hq.TT0 hq.tgN := by
 have hA : Side x0 (zI ha.kb hz.AB [] y0) [] (200 * 0) := sideI k0 rfl (by decide)
 have e : hq.TT0 (rowV .u8 64 (hx.ch (zI ha.kb hz.AB [] y0).w)) (hz.cH (zI ha.kb hz.AB [] y0).h (zI ha.kb hz.AB [] y0).z) = hq.tgN [] [] := tag_nil hA (by omega)
 exact ⟨(e20 ⟨(e20 ⟨⟨⟨⟨⟨⟨⟨trivial, rfl⟩, (w36_ok _)⟩, rfl⟩, (w36_ok _)⟩, (aTT hA (by omega))⟩, (aTT hA (by omega))⟩, rfl⟩ e), rfl⟩ e), trivial⟩
theorem lawEnnn (x : Acts) (KF : hd.KT') (Aw : hd.AT) (TT : hq.TTf) (TG : hq.TGf) : callE (KY x KF Aw TT TG) nl nl nl 0 (no 52 (ty 20 (no 10 (ty 20 [])))) = some (.bool true, LE KF Aw TT TG) := by kernel_rfl
theorem lawEnnz (x : Acts) (KF : hd.KT') (Aw : hd.AT) (TT : hq.TTf) (TG : hq.TGf) (c2 : Nat) : callE (KY x KF Aw TT TG) nl nl (zs 0 c2) 1 (no 52 (ty 20 (no 10 (ty 20 [])))) = some (.bool true, LE KF Aw TT TG) := by kernel_rfl
theorem lawEnzn (x : Acts) (KF : hd.KT') (Aw : hd.AT) (TT : hq.TTf) (TG : hq.TGf) (c1 : Nat) : callE (KY x KF Aw TT TG) nl (zs 0 c1) nl 1 (no 52 (ty 20 (no 10 (ty 20 [])))) = some (.bool true, LE KF Aw TT TG) := by kernel_rfl
theorem lawEnzz (x : Acts) (KF : hd.KT') (Aw : hd.AT) (TT : hq.TTf) (TG : hq.TGf) (c1 : Nat) (c2 : Nat) : callE (KY x KF Aw TT TG) nl (zs 0 c1) (zs 1 c2) 2 (no 52 (ty 20 (no 10 (ty 20 [])))) = some (.bool true, LE KF Aw TT TG) := by kernel_rfl
theorem lawEznn (x : Acts) (KF : hd.KT') (Aw : hd.AT) (TT : hq.TTf) (TG : hq.TGf) (c0 : Nat) : callE (KY x KF Aw TT TG) (zs 0 c0) nl nl 1 (no 52 (ty 20 (no 10 (ty 20 [])))) = some (.bool true, LE KF Aw TT TG) := by kernel_rfl
theorem lawEznz (x : Acts) (KF : hd.KT') (Aw : hd.AT) (TT : hq.TTf) (TG : hq.TGf) (c0 : Nat) (c2 : Nat) : callE (KY x KF Aw TT TG) (zs 0 c0) nl (zs 1 c2) 2 (no 52 (ty 20 (no 10 (ty 20 [])))) = some (.bool true, LE KF Aw TT TG) := by kernel_rfl
theorem lawEzzn (x : Acts) (KF : hd.KT') (Aw : hd.AT) (TT : hq.TTf) (TG : hq.TGf) (c0 : Nat) (c1 : Nat) : callE (KY x KF Aw TT TG) (zs 0 c0) (zs 1 c1) nl 2 (no 52 (ty 20 (no 10 (ty 20 [])))) = some (.bool true, LE KF Aw TT TG) := by kernel_rfl
theorem lawEzzz (x : Acts) (KF : hd.KT') (Aw : hd.AT) (TT : hq.TTf) (TG : hq.TGf) (c0 : Nat) (c1 : Nat) (c2 : Nat) : callE (KY x KF Aw TT TG) (zs 0 c0) (zs 1 c1) (zs 2 c2) 3 (no 52 (ty 20 (no 10 (ty 20 [])))) = some (.bool true, LE KF Aw TT TG) := by kernel_rfl
theorem first {p : Nat -> Prop} [DecidablePred p] : ∀ n, (∀ i, i < n -> p i) ∨ ∃ k, k < n /\ ¬ p k /\ ∀ i, i < k -> p i
 | 0 => .inl fun i hi => by omega
 | n + 1 => by
  rcases first (p := p) n with h | ⟨k, h1, h2, h3⟩
  ·by_cases hp : p n
   ·exact .inl fun i hi => by
     rcases Nat.lt_or_ge i n with h4 | h4
     ·exact h i h4
     ·have : i = n := by omega
      rw [this]; exact hp
   ·exact .inr ⟨n, by omega, hp, h⟩
  ·exact .inr ⟨k, by omega, h2, h3⟩
theorem key_of {W : World} {x : Acts} (hD : x.D = worldB W) {a : Option Addr} {n c : Nat} (s : (a = none /\ n = 0 /\ c = 0) ∨ ∃ b o, a = some ⟨b, o, none⟩ /\ n <= c /\ (c : Int) <= 9223372036854775807)
  (z : n = 0 ∨ ∃ (b o : Nat) (f : Nat -> Int), a = some ⟨b, o, none⟩ /\ b < W.heap.size /\ ∀ j, j < n -> W.cell? ⟨b, o + j, none⟩ = some (.int .u8 (f j)) /\ (Lit.int .u8 (f j)).wf = true) :
  ∃ y : hq.KY, AbsOk y.Q 0 y.n y.c (.slice a n c) /\ KeyOk x y := by
 by_cases h0 : n = 0
 ·subst h0
  have e : hq.WK x ⟨plc 0 0, 0, 0⟩ = [] := by
   show ((x.D (plc 0 0)).drop 0).take 0 = []
   rw [List.take_zero]
  exact ⟨⟨plc 0 0, 0, 0⟩, AbsOk.none, ⟨(by rw [e]; exact fun z hz => (by cases hz)), (by rw [e]; rfl)⟩⟩
 ·rcases z with h | ⟨b, o, f, rfl, hb, hf⟩
  ·exact absurd h h0
  ·have hc : n <= c := by
    rcases s with ⟨h, _⟩ | ⟨_, _, _, hc, _⟩
    ·cases h
    ·exact hc
   obtain ⟨q1, q2⟩ := worldB_row hf h0
   refine ⟨⟨plc b o, n, c⟩, AbsOk.of hc, ⟨?_, ?_⟩⟩
   ·show hx.Byt (((x.D (plc b o)).drop 0).take n)
    rw [List.drop_zero, hD]; exact q2
   ·show n = (((x.D (plc b o)).drop 0).take n).length
    rw [List.drop_zero, hD]; exact q1.symm
theorem big1S (x : Acts) (y1 y2 : hq.KY) (n c : Nat) (KF : hd.KT') (Aw : hd.AT) (TT : hq.TTf) (TG : hq.TGf) : call3 x y1 y2 (KT x KF Aw TT TG) n c [none, none, T] = some (.bool true, ((True /\ decide (nI y1.n > 500) = true) /\ True)) := by kernel_rfl
theorem big2S (x : Acts) (y1 y2 : hq.KY) (n c : Nat) (KF : hd.KT') (Aw : hd.AT) (TT : hq.TTf) (TG : hq.TGf) : call3 x y1 y2 (KT x KF Aw TT TG) n c [none, none, F, none, none, none, T] = some (.bool true, (((True /\ decide (nI y1.n > 500) = false) /\ decide (nI y2.n > 500) = true) /\ True)) := by kernel_rfl
theorem big1W (x : Acts) (y1 y2 : hq.KY) (KF : hd.KT') (Aw : hd.AT) (TT : hq.TTf) (TG : hq.TGf) : callW x y1 y2 (KZ x KF Aw TT TG) [none, none, T] = some (.bool true, ((True /\ decide (nI y1.n > 500) = true) /\ True)) := by kernel_rfl
theorem big2W (x : Acts) (y1 y2 : hq.KY) (KF : hd.KT') (Aw : hd.AT) (TT : hq.TTf) (TG : hq.TGf) : callW x y1 y2 (KZ x KF Aw TT TG) [none, none, F, none, none, none, T] = some (.bool true, (((True /\ decide (nI y1.n > 500) = false) /\ decide (nI y2.n > 500) = true) /\ True)) := by kernel_rfl
theorem big3S (x : Acts) (y1 y2 : hq.KY) (n c : Nat) (KF : hd.KT') (Aw : hd.AT) (TT : hq.TTf) (TG : hq.TGf) : call3 x y1 y2 (KT x KF Aw TT TG) n c [none, none, F, none, none, none, F, none, none, none, none, none, none, T] = some (.bool true, ((((True /\ decide (nI y1.n > 500) = false) /\ decide (nI y2.n > 500) = false) /\ decide (nI n > 20) = true) /\ True)) := by kernel_rfl
theorem playsS {x : Acts} {W : World} {b o n c : Nat} {v1 v2 : Value} {y1 y2 : hq.KY} (hat : x.At W b o n) (h : x.Ok n) (h0 : 0 < n) (hc : n <= c) (u1 : AbsOk y1.Q 0 y1.n y1.c v1) (u2 : AbsOk y2.Q 0 y2.n y2.c v2) (k1 : KeyOk x y1) (k2 : KeyOk x y2) :
  Calls Try.prog 3 #[v1, v2, .slice (some ⟨b, o, none⟩) n c] W fun e w' => e = .returned (.bool true) /\ Below W.heap.size W w' := by
 have fin : ∀ (K : Given) (hK : GivenOk Try.prog K) (orc : List (Option Bool)) (p : Prop), call3 x y1 y2 K n c orc = some (.bool true, p) -> p ->
   Calls Try.prog 3 #[v1, v2, .slice (some ⟨b, o, none⟩) n c] W fun e w' => e = .returned (.bool true) /\ Below W.heap.size W w' := fun K hK orc p hr hp => by
  obtain ⟨ρ, g1, g2⟩ := Acts.start hat orc
  have d0 : Dm (smSt 2 (x.heap n) orc) 0 := ⟨(show 0 < 2 by decide), rfl⟩
  exact ranG sw.pg hK (ρ := ρ) hr hp rfl g1 (VL.cons (.abs d0 rfl u1) (VL.cons (.abs d0 rfl u2) (VL.cons (g2 n c hc) VL.nil)))
 by_cases h5 : y1.n <= 500
 ·by_cases h6 : y2.n <= 500
  ·by_cases hn : n <= 20
   ·by_cases e1 : y1.n = 0 <;> by_cases e2 : y2.n = 0
    ·have hA := sideI k1 (KE_eq k1 e1) h5
     have hB := sideI k2 (KE_eq k2 e2) h6
     rcases first (p := fun i => x.wh i = 0 -> x.m i <= 200) n with hm | ⟨k, q1, q2, q3⟩
     ·obtain ⟨tz, ⟨A, B, M, N, v, hv, gA, gB, g⟩, hl⟩ := loopX (c := c) (gEE vEEE_dead hA hB) startEEE h hn hm
      rcases g with ⟨rfl, rfl, rfl⟩ | ⟨fA, rfl, rfl⟩ | ⟨rfl, fB, rfl⟩ | ⟨fA, fB, rfl⟩ | ⟨fA, rfl, rfl⟩
      ·exact fin _ (KQEE_ok _ _ _ _ _ _ _ _ _ _ _ _ _ _) _ _ (lawEEEE x y1 y2 n c n A B v ha.kb hz.AB hq.TT0 hq.tgN) (okEEEE (M := []) (N := []) hn k1 k2 h5 h6 e1 e2 gA gB hl)
      ·exact fin _ (KQEE_ok _ _ _ _ _ _ _ _ _ _ _ _ _ _) _ _ (lawEERE x y1 y2 n c n A B v ha.kb hz.AB hq.TT0 hq.tgN) (okEERE (N := []) hn k1 k2 h5 h6 e1 e2 gA gB fA hl)
      ·exact fin _ (KQEE_ok _ _ _ _ _ _ _ _ _ _ _ _ _ _) _ _ (lawEEER x y1 y2 n c n A B v ha.kb hz.AB hq.TT0 hq.tgN) (okEEER (M := []) hn k1 k2 h5 h6 e1 e2 gA gB fB hl)
      ·exact fin _ (KQEE_ok _ _ _ _ _ _ _ _ _ _ _ _ _ _) _ _ (lawEERR x y1 y2 n c n A B v ha.kb hz.AB hq.TT0 hq.tgN) (okEERR  hn k1 k2 h5 h6 e1 e2 gA gB fA fB hl)
      ·exact fin _ (KQEE_ok _ _ _ _ _ _ _ _ _ _ _ _ _ _) _ _ (lawEESS x y1 y2 n c n A B v ha.kb hz.AB hq.TT0 hq.tgN) (okEESS (N := []) hn k1 k2 h5 h6 e1 e2 gA gB fA hl)
     ·obtain ⟨hw, hb⟩ := Classical.not_imp.mp q2
      obtain ⟨_, ⟨v, rfl⟩, hl⟩ := loopY (c := c) (gEE vEEE_dead hA hB) startEEE h hn q1 q3 hw (by omega)
      exact fin _ (KQEE_ok _ _ _ _ _ _ _ _ _ _ _ _ _ _) _ _ (lawYEE x y1 y2 n c n (zI ha.kb hz.AB (KE x y1) y1) (zI ha.kb hz.AB (KE x y2) y2) v ha.kb hz.AB hq.TT0 hq.tgN) (okYEE (A := (zI ha.kb hz.AB (KE x y1) y1)) (B := (zI ha.kb hz.AB (KE x y2) y2)) hn k1 k2 h5 h6 e1 e2 hl)
    ·have hA := sideI k1 (KE_eq k1 e1) h5
     have hB := sideI k2 (KR_eq k2) h6
     rcases first (p := fun i => x.wh i = 0 -> x.m i <= 200) n with hm | ⟨k, q1, q2, q3⟩
     ·obtain ⟨tz, ⟨A, B, M, N, v, hv, gA, gB, g⟩, hl⟩ := loopX (c := c) (gEE vEER_dead hA hB) startEER h hn hm
      rcases g with ⟨rfl, rfl, rfl⟩ | ⟨fA, rfl, rfl⟩ | ⟨rfl, fB, rfl⟩ | ⟨fA, fB, rfl⟩ | ⟨fA, rfl, rfl⟩
      ·exact fin _ (KQER_ok _ _ _ _ _ _ _ _ _ _ _ _ _ _) _ _ (lawEREE x y1 y2 n c n A B v ha.kb hz.AB hq.TT0 hq.tgN) (okEREE (M := []) (N := []) hn k1 k2 h5 h6 e1 e2 gA gB hl)
      ·exact fin _ (KQER_ok _ _ _ _ _ _ _ _ _ _ _ _ _ _) _ _ (lawERRE x y1 y2 n c n A B v ha.kb hz.AB hq.TT0 hq.tgN) (okERRE (N := []) hn k1 k2 h5 h6 e1 e2 gA gB fA hl)
      ·exact fin _ (KQER_ok _ _ _ _ _ _ _ _ _ _ _ _ _ _) _ _ (lawERER x y1 y2 n c n A B v ha.kb hz.AB hq.TT0 hq.tgN) (okERER (M := []) hn k1 k2 h5 h6 e1 e2 gA gB fB hl)
      ·exact fin _ (KQER_ok _ _ _ _ _ _ _ _ _ _ _ _ _ _) _ _ (lawERRR x y1 y2 n c n A B v ha.kb hz.AB hq.TT0 hq.tgN) (okERRR  hn k1 k2 h5 h6 e1 e2 gA gB fA fB hl)
      ·exact fin _ (KQER_ok _ _ _ _ _ _ _ _ _ _ _ _ _ _) _ _ (lawERSS x y1 y2 n c n A B v ha.kb hz.AB hq.TT0 hq.tgN) (okERSS (N := []) hn k1 k2 h5 h6 e1 e2 gA gB fA hl)
     ·obtain ⟨hw, hb⟩ := Classical.not_imp.mp q2
      obtain ⟨_, ⟨v, rfl⟩, hl⟩ := loopY (c := c) (gEE vEER_dead hA hB) startEER h hn q1 q3 hw (by omega)
      exact fin _ (KQER_ok _ _ _ _ _ _ _ _ _ _ _ _ _ _) _ _ (lawYER x y1 y2 n c n (zI ha.kb hz.AB (KE x y1) y1) (zI ha.kb hz.AB (KR x y2) y2) v ha.kb hz.AB hq.TT0 hq.tgN) (okYER (A := (zI ha.kb hz.AB (KE x y1) y1)) (B := (zI ha.kb hz.AB (KR x y2) y2)) hn k1 k2 h5 h6 e1 e2 hl)
    ·have hA := sideI k1 (KR_eq k1) h5
     have hB := sideI k2 (KE_eq k2 e2) h6
     rcases first (p := fun i => x.wh i = 0 -> x.m i <= 200) n with hm | ⟨k, q1, q2, q3⟩
     ·obtain ⟨tz, ⟨A, B, M, N, v, hv, gA, gB, g⟩, hl⟩ := loopX (c := c) (gEE vERE_dead hA hB) startERE h hn hm
      rcases g with ⟨rfl, rfl, rfl⟩ | ⟨fA, rfl, rfl⟩ | ⟨rfl, fB, rfl⟩ | ⟨fA, fB, rfl⟩ | ⟨fA, rfl, rfl⟩
      ·exact fin _ (KQRE_ok _ _ _ _ _ _ _ _ _ _ _ _ _ _) _ _ (lawREEE x y1 y2 n c n A B v ha.kb hz.AB hq.TT0 hq.tgN) (okREEE (M := []) (N := []) hn k1 k2 h5 h6 e1 e2 gA gB hl)
      ·exact fin _ (KQRE_ok _ _ _ _ _ _ _ _ _ _ _ _ _ _) _ _ (lawRERE x y1 y2 n c n A B v ha.kb hz.AB hq.TT0 hq.tgN) (okRERE (N := []) hn k1 k2 h5 h6 e1 e2 gA gB fA hl)
      ·exact fin _ (KQRE_ok _ _ _ _ _ _ _ _ _ _ _ _ _ _) _ _ (lawREER x y1 y2 n c n A B v ha.kb hz.AB hq.TT0 hq.tgN) (okREER (M := []) hn k1 k2 h5 h6 e1 e2 gA gB fB hl)
      ·exact fin _ (KQRE_ok _ _ _ _ _ _ _ _ _ _ _ _ _ _) _ _ (lawRERR x y1 y2 n c n A B v ha.kb hz.AB hq.TT0 hq.tgN) (okRERR  hn k1 k2 h5 h6 e1 e2 gA gB fA fB hl)
      ·exact fin _ (KQRE_ok _ _ _ _ _ _ _ _ _ _ _ _ _ _) _ _ (lawRESS x y1 y2 n c n A B v ha.kb hz.AB hq.TT0 hq.tgN) (okRESS (N := []) hn k1 k2 h5 h6 e1 e2 gA gB fA hl)
     ·obtain ⟨hw, hb⟩ := Classical.not_imp.mp q2
      obtain ⟨_, ⟨v, rfl⟩, hl⟩ := loopY (c := c) (gEE vERE_dead hA hB) startERE h hn q1 q3 hw (by omega)
      exact fin _ (KQRE_ok _ _ _ _ _ _ _ _ _ _ _ _ _ _) _ _ (lawYRE x y1 y2 n c n (zI ha.kb hz.AB (KR x y1) y1) (zI ha.kb hz.AB (KE x y2) y2) v ha.kb hz.AB hq.TT0 hq.tgN) (okYRE (A := (zI ha.kb hz.AB (KR x y1) y1)) (B := (zI ha.kb hz.AB (KE x y2) y2)) hn k1 k2 h5 h6 e1 e2 hl)
    ·have hA := sideI k1 (KR_eq k1) h5
     have hB := sideI k2 (KR_eq k2) h6
     rcases first (p := fun i => x.wh i = 0 -> x.m i <= 200) n with hm | ⟨k, q1, q2, q3⟩
     ·obtain ⟨tz, ⟨A, B, M, N, v, hv, gA, gB, g⟩, hl⟩ := loopX (c := c) (gEE vERR_dead hA hB) startERR h hn hm
      rcases g with ⟨rfl, rfl, rfl⟩ | ⟨fA, rfl, rfl⟩ | ⟨rfl, fB, rfl⟩ | ⟨fA, fB, rfl⟩ | ⟨fA, rfl, rfl⟩
      ·exact fin _ (KQRR_ok _ _ _ _ _ _ _ _ _ _ _ _ _ _) _ _ (lawRREE x y1 y2 n c n A B v ha.kb hz.AB hq.TT0 hq.tgN) (okRREE (M := []) (N := []) hn k1 k2 h5 h6 e1 e2 gA gB hl)
      ·exact fin _ (KQRR_ok _ _ _ _ _ _ _ _ _ _ _ _ _ _) _ _ (lawRRRE x y1 y2 n c n A B v ha.kb hz.AB hq.TT0 hq.tgN) (okRRRE (N := []) hn k1 k2 h5 h6 e1 e2 gA gB fA hl)
      ·exact fin _ (KQRR_ok _ _ _ _ _ _ _ _ _ _ _ _ _ _) _ _ (lawRRER x y1 y2 n c n A B v ha.kb hz.AB hq.TT0 hq.tgN) (okRRER (M := []) hn k1 k2 h5 h6 e1 e2 gA gB fB hl)
      ·exact fin _ (KQRR_ok _ _ _ _ _ _ _ _ _ _ _ _ _ _) _ _ (lawRRRR x y1 y2 n c n A B v ha.kb hz.AB hq.TT0 hq.tgN) (okRRRR  hn k1 k2 h5 h6 e1 e2 gA gB fA fB hl)
      ·exact fin _ (KQRR_ok _ _ _ _ _ _ _ _ _ _ _ _ _ _) _ _ (lawRRSS x y1 y2 n c n A B v ha.kb hz.AB hq.TT0 hq.tgN) (okRRSS (N := []) hn k1 k2 h5 h6 e1 e2 gA gB fA hl)
     ·obtain ⟨hw, hb⟩ := Classical.not_imp.mp q2
      obtain ⟨_, ⟨v, rfl⟩, hl⟩ := loopY (c := c) (gEE vERR_dead hA hB) startERR h hn q1 q3 hw (by omega)
      exact fin _ (KQRR_ok _ _ _ _ _ _ _ _ _ _ _ _ _ _) _ _ (lawYRR x y1 y2 n c n (zI ha.kb hz.AB (KR x y1) y1) (zI ha.kb hz.AB (KR x y2) y2) v ha.kb hz.AB hq.TT0 hq.tgN) (okYRR (A := (zI ha.kb hz.AB (KR x y1) y1)) (B := (zI ha.kb hz.AB (KR x y2) y2)) hn k1 k2 h5 h6 e1 e2 hl)
   ·exact fin _ (KT_ok _ _ _ _ _) _ _ (big3S x y1 y2 n c ha.kb hz.AB hq.TT0 hq.tgN) ⟨⟨⟨⟨trivial, (by first | omega | simp [nI, mostBytes] <;> omega)⟩, (by first | omega | simp [nI, mostBytes] <;> omega)⟩, (by first | omega | simp [nI, mostBytes] <;> omega)⟩, trivial⟩
  ·exact fin _ (KT_ok _ _ _ _ _) _ _ (big2S x y1 y2 n c ha.kb hz.AB hq.TT0 hq.tgN) ⟨⟨⟨trivial, (by first | omega | simp [nI, mostBytes] <;> omega)⟩, (by first | omega | simp [nI, mostBytes] <;> omega)⟩, trivial⟩
 ·exact fin _ (KT_ok _ _ _ _ _) _ _ (big1S x y1 y2 n c ha.kb hz.AB hq.TT0 hq.tgN) ⟨⟨trivial, (by first | omega | simp [nI, mostBytes] <;> omega)⟩, trivial⟩
theorem startW {x : Acts} {W : World} (hW : 0 < W.heap.size) (hb : ∀ (P j : Nat) (y : Int), (x.D P)[j]? = some y -> ∃ pc t fr, W.heap[blkOf P]? = some (.cells pc t fr) /\ pc[baseOf P + j]? = some (.int .u8 y)) (orc : List (Option Bool)) :
  ∃ ρ : Nat -> PB, Hs (smSt 2 [some (.fam x.F), none] orc) ρ W := by
 have get : ∀ (k : Nat) (ob : Ob), (smSt 2 [some (.fam x.F), none] orc).heap.get k = some ob -> k = 0 /\ ob = .fam x.F := fun k ob hk => by
  have hk : (Tr.ofL [some (.fam x.F), none]).get k = some ob := hk
  rw [ofL_get (by simp)] at hk
  rcases k with _ | _ | k
  ·simp only [hget, List.getElem?_cons_zero] at hk
   cases hk; exact ⟨rfl, rfl⟩
  ·simp [hget] at hk
  ·simp [hget] at hk
 have d0 : Dm (smSt 2 [some (.fam x.F), none] orc) 0 := ⟨(show 0 < 2 by decide), rfl⟩
 refine ⟨fun _ => ⟨0, 0, 0⟩, ⟨⟨fun k ob hk => ?_, fun k k' ob ob' hk hk' hm _ => ?_, fun k k' ob ob' B hk hB hk' hm => ?_⟩, fun _ _ => rfl, ⟨Nat.le_refl _, fun z hz => by simp [smSt] at hz⟩⟩⟩
 ·obtain ⟨rfl, rfl⟩ := get k ob hk
  refine ⟨d0, fun hm => absurd (show 2 <= 0 from hm) (by omega), hW, fun g P i v hv => ?_⟩
  unfold Acts.F at hv
  simp only [Cells.get, Option.map_eq_some_iff] at hv
  obtain ⟨y, hy, rfl⟩ := hv
  obtain ⟨pc, t, fr, k1, k2⟩ := hb P i y hy
  exact ⟨pc, t, fr, _, k1, k2, .same rfl, rfl⟩
 ·have hm : 2 <= k ∨ 2 <= k' := hm
  have e1 : k < 2 := by have := (get k ob hk).1; omega
  have e2 : k' < 2 := by have := (get k' ob' hk').1; omega
  omega
 ·have hm : 2 <= k' := hm
  have e2 : k' < 2 := by have := (get k' ob' hk').1; omega
  omega
theorem playsW {x : Acts} {W : World} {v1 v2 v3 : Value} {y1 y2 : hq.KY} (hW : 0 < W.heap.size) (hb : ∀ (P j : Nat) (y : Int), (x.D P)[j]? = some y -> ∃ pc t fr, W.heap[blkOf P]? = some (.cells pc t fr) /\ pc[baseOf P + j]? = some (.int .u8 y)) (u1 : AbsOk y1.Q 0 y1.n y1.c v1) (u2 : AbsOk y2.Q 0 y2.n y2.c v2) (u3 : AbsOk 0 0 0 0 v3) (k1 : KeyOk x y1) (k2 : KeyOk x y2) :
  Calls Try.prog 3 #[v1, v2, v3] W fun e w' => e = .returned (.bool true) /\ Below W.heap.size W w' := by
 have fin : ∀ (K : Given) (hK : GivenOk Try.prog K) (orc : List (Option Bool)) (p : Prop), callW x y1 y2 K orc = some (.bool true, p) -> p ->
   Calls Try.prog 3 #[v1, v2, v3] W fun e w' => e = .returned (.bool true) /\ Below W.heap.size W w' := fun K hK orc p hr hp => by
  obtain ⟨ρ, g1⟩ := startW hW hb orc
  have d0 : Dm (smSt 2 [some (.fam x.F), none] orc) 0 := ⟨(show 0 < 2 by decide), rfl⟩
  exact ranG sw.pg hK (ρ := ρ) hr hp rfl g1 (VL.cons (.abs d0 rfl u1) (VL.cons (.abs d0 rfl u2) (VL.cons (.abs d0 rfl u3) VL.nil)))
 by_cases h5 : y1.n <= 500
 ·by_cases h6 : y2.n <= 500
  ·by_cases e1 : y1.n = 0 <;> by_cases e2 : y2.n = 0
   ·exact fin _ (KZEE_ok _ _ _ _ _ _ _) _ _ (lawWEE x y1 y2 ha.kb hz.AB hq.TT0 hq.tgN) (okWEE k1 k2 h5 h6 e1 e2)
   ·exact fin _ (KZER_ok _ _ _ _ _ _ _) _ _ (lawWER x y1 y2 ha.kb hz.AB hq.TT0 hq.tgN) (okWER k1 k2 h5 h6 e1 e2)
   ·exact fin _ (KZRE_ok _ _ _ _ _ _ _) _ _ (lawWRE x y1 y2 ha.kb hz.AB hq.TT0 hq.tgN) (okWRE k1 k2 h5 h6 e1 e2)
   ·exact fin _ (KZRR_ok _ _ _ _ _ _ _) _ _ (lawWRR x y1 y2 ha.kb hz.AB hq.TT0 hq.tgN) (okWRR k1 k2 h5 h6 e1 e2)
  ·exact fin _ (KZ_ok _ _ _ _ _) _ _ (big2W x y1 y2 ha.kb hz.AB hq.TT0 hq.tgN) ⟨⟨⟨trivial, (by first | omega | simp [nI, mostBytes] <;> omega)⟩, (by first | omega | simp [nI, mostBytes] <;> omega)⟩, trivial⟩
 ·exact fin _ (KZ_ok _ _ _ _ _) _ _ (big1W x y1 y2 ha.kb hz.AB hq.TT0 hq.tgN) ⟨⟨trivial, (by first | omega | simp [nI, mostBytes] <;> omega)⟩, trivial⟩
theorem absz {v : Value} {a : Option Addr} {c : Nat} (e : v = .slice a 0 c) : AbsOk 0 0 0 0 v := by rw [e]; exact AbsOk.none
theorem hmacPlays (W : World) (a0 : Option Addr) (n0 c0 : Nat) (s0 : (a0 = none /\ n0 = 0 /\ c0 = 0) ∨ ∃ b o, a0 = some ⟨b, o, none⟩ /\ n0 <= c0 /\ (c0 : Int) <= 9223372036854775807)
  (z0 : n0 = 0 ∨ ∃ (b o : Nat) (f : Nat -> Int), a0 = some ⟨b, o, none⟩ /\ b < W.heap.size /\ ∀ j, j < n0 -> W.cell? ⟨b, o + j, none⟩ = some (.int .u8 (f j)) /\ (Lit.int .u8 (f j)).wf = true)
  (a1 : Option Addr) (n1 c1 : Nat) (s1 : (a1 = none /\ n1 = 0 /\ c1 = 0) ∨ ∃ b o, a1 = some ⟨b, o, none⟩ /\ n1 <= c1 /\ (c1 : Int) <= 9223372036854775807)
  (z1 : n1 = 0 ∨ ∃ (b o : Nat) (f : Nat -> Int), a1 = some ⟨b, o, none⟩ /\ b < W.heap.size /\ ∀ j, j < n1 -> W.cell? ⟨b, o + j, none⟩ = some (.int .u8 (f j)) /\ (Lit.int .u8 (f j)).wf = true)
  (a2 : Option Addr) (n2 c2 : Nat) (s2 : (a2 = none /\ n2 = 0 /\ c2 = 0) ∨ ∃ b o, a2 = some ⟨b, o, none⟩ /\ n2 <= c2 /\ (c2 : Int) <= 9223372036854775807)
  (z2 : n2 = 0 ∨ ∃ b o, a2 = some ⟨b, o, none⟩ /\ (0 < n2 -> (Acts.of W b o).At W b o n2 /\ (Acts.of W b o).Ok n2)) :
  Calls Try.prog 3 #[.slice a0 n0 c0, .slice a1 n1 c1, .slice a2 n2 c2] W fun e w' => e = .returned (.bool true) /\ Below W.heap.size W w' := by
 by_cases h2 : n2 = 0
 ·subst h2
  by_cases he : n0 = 0 /\ n1 = 0
  ·obtain ⟨rfl, rfl⟩ := he
   rcases s0 with ⟨rfl, _, rfl⟩ | ⟨b, o, rfl, hc, _⟩ <;> rcases s1 with ⟨rfl, _, rfl⟩ | ⟨b', o', rfl, hc', _⟩ <;> rcases s2 with ⟨rfl, _, rfl⟩ | ⟨b2, o2, rfl, hc2, _⟩
   ·exact ran sw.pg (KY_ok x0 _ _ _ _) (lawEnnn x0 ha.kb hz.AB hq.TT0 hq.tgN ) okE rfl rfl W
   ·exact ranG sw.pg (KY_ok x0 _ _ _ _) (ρ := fun k => ⟨b2, o2, 0⟩) (lawEnnz x0 ha.kb hz.AB hq.TT0 hq.tgN c2) okE rfl (named_hs 1 _ _ W) (VL.cons (VR.same rfl) (VL.cons (VR.same rfl) (VL.cons (VR.unread (a := ⟨b2, o2, none⟩) (by decide) rfl rfl hc2) VL.nil)))
   ·exact ranG sw.pg (KY_ok x0 _ _ _ _) (ρ := fun k => ⟨b', o', 0⟩) (lawEnzn x0 ha.kb hz.AB hq.TT0 hq.tgN c1) okE rfl (named_hs 1 _ _ W) (VL.cons (VR.same rfl) (VL.cons (VR.unread (a := ⟨b', o', none⟩) (by decide) rfl rfl hc') (VL.cons (VR.same rfl) VL.nil)))
   ·exact ranG sw.pg (KY_ok x0 _ _ _ _) (ρ := fun k => if k = 0 then ⟨b', o', 0⟩ else ⟨b2, o2, 0⟩) (lawEnzz x0 ha.kb hz.AB hq.TT0 hq.tgN c1 c2) okE rfl (named_hs 2 _ _ W) (VL.cons (VR.same rfl) (VL.cons (VR.unread (a := ⟨b', o', none⟩) (by decide) rfl rfl hc') (VL.cons (VR.unread (a := ⟨b2, o2, none⟩) (by decide) rfl rfl hc2) VL.nil)))
   ·exact ranG sw.pg (KY_ok x0 _ _ _ _) (ρ := fun k => ⟨b, o, 0⟩) (lawEznn x0 ha.kb hz.AB hq.TT0 hq.tgN c0) okE rfl (named_hs 1 _ _ W) (VL.cons (VR.unread (a := ⟨b, o, none⟩) (by decide) rfl rfl hc) (VL.cons (VR.same rfl) (VL.cons (VR.same rfl) VL.nil)))
   ·exact ranG sw.pg (KY_ok x0 _ _ _ _) (ρ := fun k => if k = 0 then ⟨b, o, 0⟩ else ⟨b2, o2, 0⟩) (lawEznz x0 ha.kb hz.AB hq.TT0 hq.tgN c0 c2) okE rfl (named_hs 2 _ _ W) (VL.cons (VR.unread (a := ⟨b, o, none⟩) (by decide) rfl rfl hc) (VL.cons (VR.same rfl) (VL.cons (VR.unread (a := ⟨b2, o2, none⟩) (by decide) rfl rfl hc2) VL.nil)))
   ·exact ranG sw.pg (KY_ok x0 _ _ _ _) (ρ := fun k => if k = 0 then ⟨b, o, 0⟩ else ⟨b', o', 0⟩) (lawEzzn x0 ha.kb hz.AB hq.TT0 hq.tgN c0 c1) okE rfl (named_hs 2 _ _ W) (VL.cons (VR.unread (a := ⟨b, o, none⟩) (by decide) rfl rfl hc) (VL.cons (VR.unread (a := ⟨b', o', none⟩) (by decide) rfl rfl hc') (VL.cons (VR.same rfl) VL.nil)))
   ·exact ranG sw.pg (KY_ok x0 _ _ _ _) (ρ := fun k => if k = 0 then ⟨b, o, 0⟩ else if k = 1 then ⟨b', o', 0⟩ else ⟨b2, o2, 0⟩) (lawEzzz x0 ha.kb hz.AB hq.TT0 hq.tgN c0 c1 c2) okE rfl (named_hs 3 _ _ W) (VL.cons (VR.unread (a := ⟨b, o, none⟩) (by decide) rfl rfl hc) (VL.cons (VR.unread (a := ⟨b', o', none⟩) (by decide) rfl rfl hc') (VL.cons (VR.unread (a := ⟨b2, o2, none⟩) (by decide) rfl rfl hc2) VL.nil)))
  ·have hW : 0 < W.heap.size := by
    rcases z0 with h | ⟨_, _, _, _, hb, _⟩
    ·rcases z1 with h' | ⟨_, _, _, _, hb, _⟩
     ·exact absurd ⟨h, h'⟩ he
     ·omega
    ·omega
   obtain ⟨y1, u1, k1⟩ := key_of (x := Acts.of W 0 0) rfl s0 z0
   obtain ⟨y2, u2, k2⟩ := key_of (x := Acts.of W 0 0) rfl s1 z1
   exact playsW hW (fun P j y hy => worldB_get hy) u1 u2 (absz rfl) k1 k2
 ·rcases z2 with h | ⟨b, o, rfl, h⟩
  ·exact absurd h h2
  ·obtain ⟨h3, h4⟩ := h (by omega)
   have hc : n2 <= c2 := by
    rcases s2 with ⟨h, _⟩ | ⟨_, _, _, hc, _⟩
    ·cases h
    ·exact hc
   obtain ⟨y1, u1, k1⟩ := key_of (x := Acts.of W b o) rfl s0 z0
   obtain ⟨y2, u2, k2⟩ := key_of (x := Acts.of W b o) rfl s1 z1
   exact playsS h3 h4 (by omega) hc u1 u2 k1 k2
end
end hs
end Go.Proofs.Ytgljibcokcgfbaa
