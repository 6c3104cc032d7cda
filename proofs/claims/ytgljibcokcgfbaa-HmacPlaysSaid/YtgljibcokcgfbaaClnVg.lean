/- Read off the code by the clean reading. -/
import Derived.Test.YtgljibcokcgfbaaClnHd
import Derived.Test.YtgljibcokcgfbaaClnVd
set_option linter.unusedVariables false
set_option linter.unusedSimpArgs false
set_option linter.deprecated false
set_option maxRecDepth 100000
namespace Go.Proofs.Ytgljibcokcgfbaa
open Go.ChangeShapes Go.WideShapes Go.ChangeAt Go.RowKit Go.Cln
namespace hs
noncomputable section
def lk : Code := loopB Try.prog 3 1
def WK (i : Nat) : Bool := (Nat.ble 71 i && Nat.ble i 90)
def VK (v : VF) : VF := fun i => match WK i with
 | true => junk
 | false => v i
def BK (i : Nat) : Bool := (Nat.beq i 2 || (Nat.ble 6 i && Nat.ble i 7) || Nat.beq i 9 || (Nat.ble 11 i && Nat.ble i 15)) || WK i
theorem VK_dead {v : VF} (h : ∀ i, DeadV (v i)) (i : Nat) : DeadV (VK v i) := by
 unfold VK
 split
 ·exact DeadV.junk
 ·exact h i
theorem VK2 (v : VF) : VK (VK v) = VK v := by
 funext i
 unfold VK
 cases WK i <;> rfl
def goK (s : St) (rd : Option Nat) (o : List (Option Bool)) (t : St) : Option (Exit × Prop × Seen) := ((mk Try.prog K0 200).code 3 rd lk { s with obl := True, orc := o }).map (fun r => (r.1, r.2.obl, seenInT BK r.2 t []))
def tmKRE0 (v : VF) (n c i : Nat) : List Value := (v 0 :: v 1 :: S n c :: vs v 3 3 (.bool false :: .pointer (some ⟨6, 0, none⟩) :: v 8 :: .int .i64 0 :: v 10 :: .int .i64 0 :: .slice (some ⟨104, 0, none⟩) 2 2 :: .pointer (some ⟨105, 0, none⟩) :: .int .i64 0 :: .int .i64 (nI i) :: vs v 16 245 []))
theorem tmKRE0_dead {v : VF} {n c i : Nat} {B : Nat -> Bool} (h : ∀ i, DeadV (v i)) (hB : ∀ i, (Nat.beq i 2 || (Nat.ble 6 i && Nat.ble i 7) || Nat.beq i 9 || (Nat.ble 11 i && Nat.ble i 15)) = true -> B i = true) : deadT B 0 (tmKRE0 v n c i) :=
 ⟨fun _ => h 0, ⟨fun _ => h 1, ⟨fun e => absurd e (by rw [hB 2 rfl]; decide), deadT_vs h 3 (⟨fun e => absurd e (by rw [hB 6 rfl]; decide), ⟨fun e => absurd e (by rw [hB 7 rfl]; decide), ⟨fun _ => h 8, ⟨fun e => absurd e (by rw [hB 9 rfl]; decide), ⟨fun _ => h 10, ⟨fun e => absurd e (by rw [hB 11 rfl]; decide), ⟨fun e => absurd e (by rw [hB 12 rfl]; decide), ⟨fun e => absurd e (by rw [hB 13 rfl]; decide), ⟨fun e => absurd e (by rw [hB 14 rfl]; decide), ⟨fun e => absurd e (by rw [hB 15 rfl]; decide), deadT_vs h 245 (trivial)⟩⟩⟩⟩⟩⟩⟩⟩⟩⟩)⟩⟩⟩
def hKRE0 (x : Acts) (n : Nat) (A B : Sd) (M M2 : List Int) : Nat -> Option Ob := fun i => match i with
 | 0 => some (.fam x.F)
 | 1 => some (.cells (.rows n 3 x.row) 0)
 | 6 => some (.cells (.lit [.slice (some ⟨4, 0, some 1⟩) (0 + A.y.n) (0 + A.y.n), .slice (some ⟨5, 0, none⟩) (0 + B.y.n) 0]) 26)
 | 4 => some (.cells (.ints .u8 M) 5)
 | 44 => ad A
 | 54 => md 44 A
 | 93 => ad B
 | 103 => md 93 B
 | 104 => some (.cells (.lit [.pointer (some ⟨54, 0, none⟩), .pointer (some ⟨103, 0, none⟩)]) 27)
 | 105 => some (.cells (.lit [hq.kv A.y, hq.kv B.y]) 26)
 | _ => none
theorem hKRE0_ok (x : Acts) (n : Nat) (A B : Sd) (M M2 : List Int) : Go.Cln.RowsIn (hKRE0 x n A B M M2) := by
 intro b n' w' g t h
 unfold hKRE0 at h
 split at h <;> first | (cases h; done) | (cases h; exact xrow_ok x)
def sKRE0 (x : Acts) (n c : Nat) (A B : Sd) (v : VF) (M M2 : List Int) (i : Nat) : St := ⟨tmKRE0 v n c i, [], Tr.rebuild (hKRE0 x n A B M M2) 106, 106, 2, [], fun _ => false, True, []⟩
def tmKER1 (v : VF) (n c i : Nat) : List Value := (v 0 :: v 1 :: S n c :: vs v 3 3 (.bool false :: .pointer (some ⟨6, 0, none⟩) :: v 8 :: .int .i64 0 :: v 10 :: .int .i64 0 :: .slice (some ⟨104, 0, none⟩) 2 2 :: .pointer (some ⟨105, 0, none⟩) :: .int .i64 1 :: .int .i64 (nI i) :: vs v 16 245 []))
theorem tmKER1_dead {v : VF} {n c i : Nat} {B : Nat -> Bool} (h : ∀ i, DeadV (v i)) (hB : ∀ i, (Nat.beq i 2 || (Nat.ble 6 i && Nat.ble i 7) || Nat.beq i 9 || (Nat.ble 11 i && Nat.ble i 15)) = true -> B i = true) : deadT B 0 (tmKER1 v n c i) :=
 ⟨fun _ => h 0, ⟨fun _ => h 1, ⟨fun e => absurd e (by rw [hB 2 rfl]; decide), deadT_vs h 3 (⟨fun e => absurd e (by rw [hB 6 rfl]; decide), ⟨fun e => absurd e (by rw [hB 7 rfl]; decide), ⟨fun _ => h 8, ⟨fun e => absurd e (by rw [hB 9 rfl]; decide), ⟨fun _ => h 10, ⟨fun e => absurd e (by rw [hB 11 rfl]; decide), ⟨fun e => absurd e (by rw [hB 12 rfl]; decide), ⟨fun e => absurd e (by rw [hB 13 rfl]; decide), ⟨fun e => absurd e (by rw [hB 14 rfl]; decide), ⟨fun e => absurd e (by rw [hB 15 rfl]; decide), deadT_vs h 245 (trivial)⟩⟩⟩⟩⟩⟩⟩⟩⟩⟩)⟩⟩⟩
def hKER1 (x : Acts) (n : Nat) (A B : Sd) (M M2 : List Int) : Nat -> Option Ob := fun i => match i with
 | 0 => some (.fam x.F)
 | 1 => some (.cells (.rows n 3 x.row) 0)
 | 6 => some (.cells (.lit [.slice (some ⟨3, 0, none⟩) (0 + A.y.n) 0, .slice (some ⟨5, 0, some 1⟩) (0 + B.y.n) (0 + B.y.n)]) 26)
 | 5 => some (.cells (.ints .u8 M) 5)
 | 45 => ad A
 | 55 => md 45 A
 | 93 => ad B
 | 103 => md 93 B
 | 104 => some (.cells (.lit [.pointer (some ⟨55, 0, none⟩), .pointer (some ⟨103, 0, none⟩)]) 27)
 | 105 => some (.cells (.lit [hq.kv A.y, hq.kv B.y]) 26)
 | _ => none
theorem hKER1_ok (x : Acts) (n : Nat) (A B : Sd) (M M2 : List Int) : Go.Cln.RowsIn (hKER1 x n A B M M2) := by
 intro b n' w' g t h
 unfold hKER1 at h
 split at h <;> first | (cases h; done) | (cases h; exact xrow_ok x)
def sKER1 (x : Acts) (n c : Nat) (A B : Sd) (v : VF) (M M2 : List Int) (i : Nat) : St := ⟨tmKER1 v n c i, [], Tr.rebuild (hKER1 x n A B M M2) 106, 106, 2, [], fun _ => false, True, []⟩
def tmKRR0 (v : VF) (n c i : Nat) : List Value := (v 0 :: v 1 :: S n c :: vs v 3 3 (.bool false :: .pointer (some ⟨7, 0, none⟩) :: v 8 :: .int .i64 0 :: v 10 :: .int .i64 0 :: .slice (some ⟨104, 0, none⟩) 2 2 :: .pointer (some ⟨105, 0, none⟩) :: .int .i64 0 :: .int .i64 (nI i) :: vs v 16 245 []))
theorem tmKRR0_dead {v : VF} {n c i : Nat} {B : Nat -> Bool} (h : ∀ i, DeadV (v i)) (hB : ∀ i, (Nat.beq i 2 || (Nat.ble 6 i && Nat.ble i 7) || Nat.beq i 9 || (Nat.ble 11 i && Nat.ble i 15)) = true -> B i = true) : deadT B 0 (tmKRR0 v n c i) :=
 ⟨fun _ => h 0, ⟨fun _ => h 1, ⟨fun e => absurd e (by rw [hB 2 rfl]; decide), deadT_vs h 3 (⟨fun e => absurd e (by rw [hB 6 rfl]; decide), ⟨fun e => absurd e (by rw [hB 7 rfl]; decide), ⟨fun _ => h 8, ⟨fun e => absurd e (by rw [hB 9 rfl]; decide), ⟨fun _ => h 10, ⟨fun e => absurd e (by rw [hB 11 rfl]; decide), ⟨fun e => absurd e (by rw [hB 12 rfl]; decide), ⟨fun e => absurd e (by rw [hB 13 rfl]; decide), ⟨fun e => absurd e (by rw [hB 14 rfl]; decide), ⟨fun e => absurd e (by rw [hB 15 rfl]; decide), deadT_vs h 245 (trivial)⟩⟩⟩⟩⟩⟩⟩⟩⟩⟩)⟩⟩⟩
def hKRR0 (x : Acts) (n : Nat) (A B : Sd) (M M2 : List Int) : Nat -> Option Ob := fun i => match i with
 | 0 => some (.fam x.F)
 | 1 => some (.cells (.rows n 3 x.row) 0)
 | 7 => some (.cells (.lit [.slice (some ⟨4, 0, some 1⟩) (0 + A.y.n) (0 + A.y.n), .slice (some ⟨6, 0, some 1⟩) (0 + B.y.n) (0 + B.y.n)]) 26)
 | 4 => some (.cells (.ints .u8 M) 5)
 | 6 => some (.cells (.ints .u8 M2) 5)
 | 45 => ad A
 | 55 => md 45 A
 | 93 => ad B
 | 103 => md 93 B
 | 104 => some (.cells (.lit [.pointer (some ⟨55, 0, none⟩), .pointer (some ⟨103, 0, none⟩)]) 27)
 | 105 => some (.cells (.lit [hq.kv A.y, hq.kv B.y]) 26)
 | _ => none
theorem hKRR0_ok (x : Acts) (n : Nat) (A B : Sd) (M M2 : List Int) : Go.Cln.RowsIn (hKRR0 x n A B M M2) := by
 intro b n' w' g t h
 unfold hKRR0 at h
 split at h <;> first | (cases h; done) | (cases h; exact xrow_ok x)
def sKRR0 (x : Acts) (n c : Nat) (A B : Sd) (v : VF) (M M2 : List Int) (i : Nat) : St := ⟨tmKRR0 v n c i, [], Tr.rebuild (hKRR0 x n A B M M2) 106, 106, 2, [], fun _ => false, True, []⟩
def tmKRR1 (v : VF) (n c i : Nat) : List Value := (v 0 :: v 1 :: S n c :: vs v 3 3 (.bool false :: .pointer (some ⟨7, 0, none⟩) :: v 8 :: .int .i64 0 :: v 10 :: .int .i64 0 :: .slice (some ⟨104, 0, none⟩) 2 2 :: .pointer (some ⟨105, 0, none⟩) :: .int .i64 1 :: .int .i64 (nI i) :: vs v 16 245 []))
theorem tmKRR1_dead {v : VF} {n c i : Nat} {B : Nat -> Bool} (h : ∀ i, DeadV (v i)) (hB : ∀ i, (Nat.beq i 2 || (Nat.ble 6 i && Nat.ble i 7) || Nat.beq i 9 || (Nat.ble 11 i && Nat.ble i 15)) = true -> B i = true) : deadT B 0 (tmKRR1 v n c i) :=
 ⟨fun _ => h 0, ⟨fun _ => h 1, ⟨fun e => absurd e (by rw [hB 2 rfl]; decide), deadT_vs h 3 (⟨fun e => absurd e (by rw [hB 6 rfl]; decide), ⟨fun e => absurd e (by rw [hB 7 rfl]; decide), ⟨fun _ => h 8, ⟨fun e => absurd e (by rw [hB 9 rfl]; decide), ⟨fun _ => h 10, ⟨fun e => absurd e (by rw [hB 11 rfl]; decide), ⟨fun e => absurd e (by rw [hB 12 rfl]; decide), ⟨fun e => absurd e (by rw [hB 13 rfl]; decide), ⟨fun e => absurd e (by rw [hB 14 rfl]; decide), ⟨fun e => absurd e (by rw [hB 15 rfl]; decide), deadT_vs h 245 (trivial)⟩⟩⟩⟩⟩⟩⟩⟩⟩⟩)⟩⟩⟩
def hKRR1 (x : Acts) (n : Nat) (A B : Sd) (M M2 : List Int) : Nat -> Option Ob := fun i => match i with
 | 0 => some (.fam x.F)
 | 1 => some (.cells (.rows n 3 x.row) 0)
 | 7 => some (.cells (.lit [.slice (some ⟨4, 0, some 1⟩) (0 + A.y.n) (0 + A.y.n), .slice (some ⟨6, 0, some 1⟩) (0 + B.y.n) (0 + B.y.n)]) 26)
 | 6 => some (.cells (.ints .u8 M) 5)
 | 45 => ad A
 | 55 => md 45 A
 | 93 => ad B
 | 103 => md 93 B
 | 104 => some (.cells (.lit [.pointer (some ⟨55, 0, none⟩), .pointer (some ⟨103, 0, none⟩)]) 27)
 | 105 => some (.cells (.lit [hq.kv A.y, hq.kv B.y]) 26)
 | _ => none
theorem hKRR1_ok (x : Acts) (n : Nat) (A B : Sd) (M M2 : List Int) : Go.Cln.RowsIn (hKRR1 x n A B M M2) := by
 intro b n' w' g t h
 unfold hKRR1 at h
 split at h <;> first | (cases h; done) | (cases h; exact xrow_ok x)
def sKRR1 (x : Acts) (n c : Nat) (A B : Sd) (v : VF) (M M2 : List Int) (i : Nat) : St := ⟨tmKRR1 v n c i, [], Tr.rebuild (hKRR1 x n A B M M2) 106, 106, 2, [], fun _ => false, True, []⟩
def vk (v : VF) : Nat -> VF
 | 0 => v
 | _ + 1 => VK v
theorem lvK (i : Nat) (h : (Nat.beq i 2 || (Nat.ble 6 i && Nat.ble i 7) || Nat.beq i 9 || (Nat.ble 11 i && Nat.ble i 15)) = true) : BK i = true := by
 unfold BK
 rw [Bool.or_eq_true]
 exact .inl h
def oK : List (Option Bool) := [none, T, none, none, T, T, none, T, T, T]
def allB : Nat -> Bool := fun _ => true
def JKRE0 (i : Nat) : Bool := (Nat.ble 0 i && Nat.ble i 1) || Nat.beq i 8 || Nat.beq i 10 || (Nat.ble 31 i && Nat.ble i 40) || (Nat.ble 42 i && Nat.ble i 47) || (Nat.ble 50 i && Nat.ble i 51) || (Nat.ble 53 i && Nat.ble i 54) || (Nat.ble 56 i && Nat.ble i 57) || (Nat.ble 59 i && Nat.ble i 65) || (Nat.ble 67 i && Nat.ble i 68)
def vKRE0 : VF := fun i => match JKRE0 i with
 | true => junk
 | false => match (Nat.beq i 48 || Nat.beq i 66) with
  | true => .agg #[junk, junk]
  | false => match (Nat.beq i 49 || Nat.beq i 52) || (Nat.beq i 55 || Nat.beq i 58) with
   | true => .tuple #[junk, junk]
   | false => undef
theorem vKRE0_dead (i : Nat) : DeadV (vKRE0 i) := by
 unfold vKRE0
 split
 ·exact DeadV.junk
 ·split
  ·exact ⟨rfl, fun _ => rfl, fun _ => rfl⟩
  ·split
   ·exact ⟨rfl, fun _ => rfl, fun _ => rfl⟩
   ·exact DeadV.undef
theorem knRE0 (x : Acts) (n c : Nat) (A B : Sd) (v : VF) (M M2 : List Int) (j : Nat) (rd : Option Nat) : goK (sKRE0 x n c A B v M M2 j) rd oK (sKRE0 x n c A B (VK v) (up M j) M2 (j + 1)) = some (.normal, pJJ A.y.n M j, seenAsT BK (sKRE0 x n c A B (VK v) (up M j) M2 (j + 1)) [] 106) := by kernel_rfl
theorem kxRE0 (x : Acts) (n c : Nat) (A B : Sd) (v : VF) (M M2 : List Int) (j : Nat) (rd : Option Nat) : goK (sKRE0 x n c A B (VK v) M M2 j) rd [none, F] (sKRE0 x n c A B (VK v) M M2 j) = some (.exit 2, True /\ decide (nI j < nI (0 + A.y.n)) = false, seenAsT BK (sKRE0 x n c A B (VK v) M M2 j) [] 106) := by kernel_rfl
theorem koRE0 (tE : List Value) (gE : Nat -> Option Ob) (x : Acts) (n c : Nat) (A B : Sd) (v : VF) (M M2 : List Int) (j : Nat) : picOkT BK (⟨tE, [], Tr.rebuild gE 106, 106, 2, [], fun _ => false, True, []⟩ : St) (sKRE0 x n c A B (VK v) M M2 j) [] = true := by kernel_rfl
def tKERE0 (n c : Nat) (A B : Sd) : List Value := (junk :: junk :: S n c :: rp undef 3 (.bool false :: .pointer (some ⟨6, 0, none⟩) :: junk :: .int .i64 0 :: junk :: .int .i64 0 :: .slice (some ⟨104, 0, none⟩) 2 2 :: .pointer (some ⟨105, 0, none⟩) :: .int .i64 0 :: .int .i64 0 :: rp undef 15 (rp junk 10 (undef :: rp junk 6 (.agg #[.slice (some ⟨4, 0, some 1⟩) (0 + A.y.n) (0 + A.y.n), .slice (some ⟨5, 0, none⟩) (0 + B.y.n) 0] :: .tuple #[.pointer (some ⟨54, 0, none⟩), .int .i64 0] :: junk :: junk :: .tuple #[.pointer (some ⟨54, 0, none⟩), .int .i64 0] :: junk :: junk :: .tuple #[.pointer (some ⟨103, 0, none⟩), .int .i64 0] :: junk :: junk :: .tuple #[.pointer (some ⟨103, 0, none⟩), .int .i64 0] :: rp junk 7 (.agg #[hq.kv A.y, hq.kv B.y] :: junk :: junk :: rp undef 192 []))))))
def sKERE0 (x : Acts) (n c : Nat) (A B : Sd) (M M2 : List Int) : St := ⟨tKERE0 n c A B, [], Tr.rebuild (hKRE0 x n A B M M2) 106, 106, 2, [], fun _ => false, True, []⟩
theorem seeKRE0 (x : Acts) (n c : Nat) (A B : Sd) (M M2 : List Int) : seenInT allB (sKERE0 x n c A B M M2) (sKRE0 x n c A B vKRE0 M M2 0) [] = seenAsT allB (sKRE0 x n c A B vKRE0 M M2 0) [] 106 := by kernel_rfl
theorem viewKRE0 (x : Acts) (n c : Nat) (A B : Sd) (M M2 : List Int) : ViewM (sKERE0 x n c A B M M2) (sKERE0 x n c A B M M2) (sKRE0 x n c A B vKRE0 M M2 0) (nm []) :=
 ViewM.stdT (f := hKRE0 x n A B M M2) (tmKRE0_dead vKRE0_dead (fun _ _ => rfl)) (hKRE0_ok _ _ _ _ _ _) rfl (by kernel_rfl) (seeKRE0 x n c A B M M2)
theorem loopKRE0 (x : Acts) (n c : Nat) (A B : Sd) (M M2 : List Int) (m : Nat) (hm : A.y.n = m) (h0 : 0 < m) (h100 : m <= 1000) (hM : M.length = m) (rd : Option Nat) :
  CodeOk Try.prog rd (.loop lk) (sKERE0 x n c A B M M2) (.exit 2) (sKRE0 x n c A B (VK vKRE0) (ups M m) M2 m) := by
 have hvj : ∀ j i, DeadV (vk vKRE0 j i) := fun j i => by
  cases j with
  | zero => exact vKRE0_dead i
  | succ j => exact VK_dead vKRE0_dead i
 refine CodeOk.of_step (Step.loop (fun g t => (g = m + 1 /\ t = sKERE0 x n c A B M M2) ∨ ∃ j, 1 <= j /\ j <= m /\ g = m - j /\ t = sKRE0 x n c A B (vk vKRE0 j) (ups M j) M2 j) ?_ (m + 1) _ (.inl ⟨rfl, rfl⟩))
 have key : ∀ j, j < m -> Step Try.prog rd (sKERE0 x n c A B M M2) lk (sKRE0 x n c A B (vk vKRE0 j) (ups M j) M2 j) (fun e t => e = .normal /\ t = sKRE0 x n c A B (vk vKRE0 (j + 1)) (ups M (j + 1)) M2 (j + 1)) := fun j hj => by
  have e1 : vk vKRE0 (j + 1) = VK (vk vKRE0 j) := by
   cases j with
   | zero => rfl
   | succ j => exact (VK2 _).symm
  rw [e1]
  exact Step.stdT (s0 := sKERE0 x n c A B M M2) sw.pg K0_ok (B := BK) (g := hKRE0 x n A B (up (ups M j) j) M2) (knRE0 x n c A B (vk vKRE0 j) (ups M j) M2 j rd) (by rw [hm]; exact pJJ_ok hj (by rw [ups_len]; exact hM) h100) (Nat.le_refl _) (tmKRE0_dead (VK_dead (hvj j)) lvK) (hKRE0_ok _ _ _ _ _ _) rfl (koRE0 ..)
 rintro g t (⟨rfl, rfl⟩ | ⟨j, j1, j2, rfl, rfl⟩)
 ·refine Step.viewM (viewKRE0 x n c A B M M2) ((key 0 h0).mono ?_)
  rintro e' t ⟨rfl, rfl⟩
  exact .inl ⟨rfl, m - 1, by omega, .inr ⟨0 + 1, by omega, by omega, by omega, rfl⟩⟩
 ·by_cases hj : j = m
  ·subst hj
   obtain ⟨i, rfl⟩ : ∃ i, j = i + 1 := ⟨j - 1, by omega⟩
   refine (Step.stdT (s0 := sKERE0 x n c A B M M2) sw.pg K0_ok (B := BK) (g := hKRE0 x n A B (ups M (i + 1)) M2) (kxRE0 x n c A B vKRE0 (ups M (i + 1)) M2 (i + 1) rd) ⟨trivial, by rw [hm]; simp only [nI, decide_eq_false_iff_not]; omega⟩ (Nat.le_refl _) (tmKRE0_dead (VK_dead vKRE0_dead) lvK) (hKRE0_ok _ _ _ _ _ _) rfl (koRE0 ..)).mono ?_
   rintro e' t ⟨rfl, rfl⟩
   exact .inr ⟨(by intro x; cases x), rfl, rfl⟩
  ·refine (key j (by omega)).mono ?_
   rintro e' t ⟨rfl, rfl⟩
   exact .inl ⟨rfl, m - (j + 1), by omega, .inr ⟨j + 1, by omega, by omega, by omega, rfl⟩⟩
def JKER1 (i : Nat) : Bool := (Nat.ble 0 i && Nat.ble i 1) || Nat.beq i 8 || Nat.beq i 10 || (Nat.ble 31 i && Nat.ble i 40) || (Nat.ble 42 i && Nat.ble i 47) || (Nat.ble 50 i && Nat.ble i 51) || (Nat.ble 53 i && Nat.ble i 54) || (Nat.ble 56 i && Nat.ble i 57) || (Nat.ble 59 i && Nat.ble i 65) || (Nat.ble 67 i && Nat.ble i 76)
def vKER1 : VF := fun i => match JKER1 i with
 | true => junk
 | false => match (Nat.beq i 48 || Nat.beq i 66) with
  | true => .agg #[junk, junk]
  | false => match (Nat.beq i 49 || Nat.beq i 52) || (Nat.beq i 55 || Nat.beq i 58) with
   | true => .tuple #[junk, junk]
   | false => undef
theorem vKER1_dead (i : Nat) : DeadV (vKER1 i) := by
 unfold vKER1
 split
 ·exact DeadV.junk
 ·split
  ·exact ⟨rfl, fun _ => rfl, fun _ => rfl⟩
  ·split
   ·exact ⟨rfl, fun _ => rfl, fun _ => rfl⟩
   ·exact DeadV.undef
theorem knER1 (x : Acts) (n c : Nat) (A B : Sd) (v : VF) (M M2 : List Int) (j : Nat) (rd : Option Nat) : goK (sKER1 x n c A B v M M2 j) rd oK (sKER1 x n c A B (VK v) (up M j) M2 (j + 1)) = some (.normal, pJJ B.y.n M j, seenAsT BK (sKER1 x n c A B (VK v) (up M j) M2 (j + 1)) [] 106) := by kernel_rfl
theorem kxER1 (x : Acts) (n c : Nat) (A B : Sd) (v : VF) (M M2 : List Int) (j : Nat) (rd : Option Nat) : goK (sKER1 x n c A B (VK v) M M2 j) rd [none, F] (sKER1 x n c A B (VK v) M M2 j) = some (.exit 2, True /\ decide (nI j < nI (0 + B.y.n)) = false, seenAsT BK (sKER1 x n c A B (VK v) M M2 j) [] 106) := by kernel_rfl
theorem koER1 (tE : List Value) (gE : Nat -> Option Ob) (x : Acts) (n c : Nat) (A B : Sd) (v : VF) (M M2 : List Int) (j : Nat) : picOkT BK (⟨tE, [], Tr.rebuild gE 106, 106, 2, [], fun _ => false, True, []⟩ : St) (sKER1 x n c A B (VK v) M M2 j) [] = true := by kernel_rfl
def tKEER1 (n c : Nat) (A B : Sd) : List Value := (junk :: junk :: S n c :: rp undef 3 (.bool false :: .pointer (some ⟨6, 0, none⟩) :: junk :: .int .i64 0 :: junk :: .int .i64 0 :: .slice (some ⟨104, 0, none⟩) 2 2 :: .pointer (some ⟨105, 0, none⟩) :: .int .i64 1 :: .int .i64 0 :: rp undef 15 (rp junk 10 (undef :: rp junk 6 (.agg #[.slice (some ⟨3, 0, none⟩) (0 + A.y.n) 0, .slice (some ⟨5, 0, some 1⟩) (0 + B.y.n) (0 + B.y.n)] :: .tuple #[.pointer (some ⟨55, 0, none⟩), .int .i64 0] :: junk :: junk :: .tuple #[.pointer (some ⟨55, 0, none⟩), .int .i64 0] :: junk :: junk :: .tuple #[.pointer (some ⟨103, 0, none⟩), .int .i64 0] :: junk :: junk :: .tuple #[.pointer (some ⟨103, 0, none⟩), .int .i64 0] :: rp junk 7 (.agg #[hq.kv A.y, hq.kv B.y] :: rp junk 10 (rp undef 184 [])))))))
def sKEER1 (x : Acts) (n c : Nat) (A B : Sd) (M M2 : List Int) : St := ⟨tKEER1 n c A B, [], Tr.rebuild (hKER1 x n A B M M2) 106, 106, 2, [], fun _ => false, True, []⟩
theorem seeKER1 (x : Acts) (n c : Nat) (A B : Sd) (M M2 : List Int) : seenInT allB (sKEER1 x n c A B M M2) (sKER1 x n c A B vKER1 M M2 0) [] = seenAsT allB (sKER1 x n c A B vKER1 M M2 0) [] 106 := by kernel_rfl
theorem viewKER1 (x : Acts) (n c : Nat) (A B : Sd) (M M2 : List Int) : ViewM (sKEER1 x n c A B M M2) (sKEER1 x n c A B M M2) (sKER1 x n c A B vKER1 M M2 0) (nm []) :=
 ViewM.stdT (f := hKER1 x n A B M M2) (tmKER1_dead vKER1_dead (fun _ _ => rfl)) (hKER1_ok _ _ _ _ _ _) rfl (by kernel_rfl) (seeKER1 x n c A B M M2)
theorem loopKER1 (x : Acts) (n c : Nat) (A B : Sd) (M M2 : List Int) (m : Nat) (hm : B.y.n = m) (h0 : 0 < m) (h100 : m <= 1000) (hM : M.length = m) (rd : Option Nat) :
  CodeOk Try.prog rd (.loop lk) (sKEER1 x n c A B M M2) (.exit 2) (sKER1 x n c A B (VK vKER1) (ups M m) M2 m) := by
 have hvj : ∀ j i, DeadV (vk vKER1 j i) := fun j i => by
  cases j with
  | zero => exact vKER1_dead i
  | succ j => exact VK_dead vKER1_dead i
 refine CodeOk.of_step (Step.loop (fun g t => (g = m + 1 /\ t = sKEER1 x n c A B M M2) ∨ ∃ j, 1 <= j /\ j <= m /\ g = m - j /\ t = sKER1 x n c A B (vk vKER1 j) (ups M j) M2 j) ?_ (m + 1) _ (.inl ⟨rfl, rfl⟩))
 have key : ∀ j, j < m -> Step Try.prog rd (sKEER1 x n c A B M M2) lk (sKER1 x n c A B (vk vKER1 j) (ups M j) M2 j) (fun e t => e = .normal /\ t = sKER1 x n c A B (vk vKER1 (j + 1)) (ups M (j + 1)) M2 (j + 1)) := fun j hj => by
  have e1 : vk vKER1 (j + 1) = VK (vk vKER1 j) := by
   cases j with
   | zero => rfl
   | succ j => exact (VK2 _).symm
  rw [e1]
  exact Step.stdT (s0 := sKEER1 x n c A B M M2) sw.pg K0_ok (B := BK) (g := hKER1 x n A B (up (ups M j) j) M2) (knER1 x n c A B (vk vKER1 j) (ups M j) M2 j rd) (by rw [hm]; exact pJJ_ok hj (by rw [ups_len]; exact hM) h100) (Nat.le_refl _) (tmKER1_dead (VK_dead (hvj j)) lvK) (hKER1_ok _ _ _ _ _ _) rfl (koER1 ..)
 rintro g t (⟨rfl, rfl⟩ | ⟨j, j1, j2, rfl, rfl⟩)
 ·refine Step.viewM (viewKER1 x n c A B M M2) ((key 0 h0).mono ?_)
  rintro e' t ⟨rfl, rfl⟩
  exact .inl ⟨rfl, m - 1, by omega, .inr ⟨0 + 1, by omega, by omega, by omega, rfl⟩⟩
 ·by_cases hj : j = m
  ·subst hj
   obtain ⟨i, rfl⟩ : ∃ i, j = i + 1 := ⟨j - 1, by omega⟩
   refine (Step.stdT (s0 := sKEER1 x n c A B M M2) sw.pg K0_ok (B := BK) (g := hKER1 x n A B (ups M (i + 1)) M2) (kxER1 x n c A B vKER1 (ups M (i + 1)) M2 (i + 1) rd) ⟨trivial, by rw [hm]; simp only [nI, decide_eq_false_iff_not]; omega⟩ (Nat.le_refl _) (tmKER1_dead (VK_dead vKER1_dead) lvK) (hKER1_ok _ _ _ _ _ _) rfl (koER1 ..)).mono ?_
   rintro e' t ⟨rfl, rfl⟩
   exact .inr ⟨(by intro x; cases x), rfl, rfl⟩
  ·refine (key j (by omega)).mono ?_
   rintro e' t ⟨rfl, rfl⟩
   exact .inl ⟨rfl, m - (j + 1), by omega, .inr ⟨j + 1, by omega, by omega, by omega, rfl⟩⟩
def JKRR0 (i : Nat) : Bool := (Nat.ble 0 i && Nat.ble i 1) || Nat.beq i 8 || Nat.beq i 10 || (Nat.ble 31 i && Nat.ble i 40) || (Nat.ble 42 i && Nat.ble i 47) || (Nat.ble 50 i && Nat.ble i 51) || (Nat.ble 53 i && Nat.ble i 54) || (Nat.ble 56 i && Nat.ble i 57) || (Nat.ble 59 i && Nat.ble i 65) || (Nat.ble 67 i && Nat.ble i 68)
def vKRR0 : VF := fun i => match JKRR0 i with
 | true => junk
 | false => match (Nat.beq i 48 || Nat.beq i 66) with
  | true => .agg #[junk, junk]
  | false => match (Nat.beq i 49 || Nat.beq i 52) || (Nat.beq i 55 || Nat.beq i 58) with
   | true => .tuple #[junk, junk]
   | false => undef
theorem vKRR0_dead (i : Nat) : DeadV (vKRR0 i) := by
 unfold vKRR0
 split
 ·exact DeadV.junk
 ·split
  ·exact ⟨rfl, fun _ => rfl, fun _ => rfl⟩
  ·split
   ·exact ⟨rfl, fun _ => rfl, fun _ => rfl⟩
   ·exact DeadV.undef
theorem knRR0 (x : Acts) (n c : Nat) (A B : Sd) (v : VF) (M M2 : List Int) (j : Nat) (rd : Option Nat) : goK (sKRR0 x n c A B v M M2 j) rd oK (sKRR0 x n c A B (VK v) (up M j) M2 (j + 1)) = some (.normal, pJJ A.y.n M j, seenAsT BK (sKRR0 x n c A B (VK v) (up M j) M2 (j + 1)) [] 106) := by kernel_rfl
theorem kxRR0 (x : Acts) (n c : Nat) (A B : Sd) (v : VF) (M M2 : List Int) (j : Nat) (rd : Option Nat) : goK (sKRR0 x n c A B (VK v) M M2 j) rd [none, F] (sKRR0 x n c A B (VK v) M M2 j) = some (.exit 2, True /\ decide (nI j < nI (0 + A.y.n)) = false, seenAsT BK (sKRR0 x n c A B (VK v) M M2 j) [] 106) := by kernel_rfl
theorem koRR0 (tE : List Value) (gE : Nat -> Option Ob) (x : Acts) (n c : Nat) (A B : Sd) (v : VF) (M M2 : List Int) (j : Nat) : picOkT BK (⟨tE, [], Tr.rebuild gE 106, 106, 2, [], fun _ => false, True, []⟩ : St) (sKRR0 x n c A B (VK v) M M2 j) [] = true := by kernel_rfl
def tKERR0 (n c : Nat) (A B : Sd) : List Value := (junk :: junk :: S n c :: rp undef 3 (.bool false :: .pointer (some ⟨7, 0, none⟩) :: junk :: .int .i64 0 :: junk :: .int .i64 0 :: .slice (some ⟨104, 0, none⟩) 2 2 :: .pointer (some ⟨105, 0, none⟩) :: .int .i64 0 :: .int .i64 0 :: rp undef 15 (rp junk 10 (undef :: rp junk 6 (.agg #[.slice (some ⟨4, 0, some 1⟩) (0 + A.y.n) (0 + A.y.n), .slice (some ⟨6, 0, some 1⟩) (0 + B.y.n) (0 + B.y.n)] :: .tuple #[.pointer (some ⟨55, 0, none⟩), .int .i64 0] :: junk :: junk :: .tuple #[.pointer (some ⟨55, 0, none⟩), .int .i64 0] :: junk :: junk :: .tuple #[.pointer (some ⟨103, 0, none⟩), .int .i64 0] :: junk :: junk :: .tuple #[.pointer (some ⟨103, 0, none⟩), .int .i64 0] :: rp junk 7 (.agg #[hq.kv A.y, hq.kv B.y] :: junk :: junk :: rp undef 192 []))))))
def sKERR0 (x : Acts) (n c : Nat) (A B : Sd) (M M2 : List Int) : St := ⟨tKERR0 n c A B, [], Tr.rebuild (hKRR0 x n A B M M2) 106, 106, 2, [], fun _ => false, True, []⟩
theorem seeKRR0 (x : Acts) (n c : Nat) (A B : Sd) (M M2 : List Int) : seenInT allB (sKERR0 x n c A B M M2) (sKRR0 x n c A B vKRR0 M M2 0) [] = seenAsT allB (sKRR0 x n c A B vKRR0 M M2 0) [] 106 := by kernel_rfl
theorem viewKRR0 (x : Acts) (n c : Nat) (A B : Sd) (M M2 : List Int) : ViewM (sKERR0 x n c A B M M2) (sKERR0 x n c A B M M2) (sKRR0 x n c A B vKRR0 M M2 0) (nm []) :=
 ViewM.stdT (f := hKRR0 x n A B M M2) (tmKRR0_dead vKRR0_dead (fun _ _ => rfl)) (hKRR0_ok _ _ _ _ _ _) rfl (by kernel_rfl) (seeKRR0 x n c A B M M2)
theorem loopKRR0 (x : Acts) (n c : Nat) (A B : Sd) (M M2 : List Int) (m : Nat) (hm : A.y.n = m) (h0 : 0 < m) (h100 : m <= 1000) (hM : M.length = m) (rd : Option Nat) :
  CodeOk Try.prog rd (.loop lk) (sKERR0 x n c A B M M2) (.exit 2) (sKRR0 x n c A B (VK vKRR0) (ups M m) M2 m) := by
 have hvj : ∀ j i, DeadV (vk vKRR0 j i) := fun j i => by
  cases j with
  | zero => exact vKRR0_dead i
  | succ j => exact VK_dead vKRR0_dead i
 refine CodeOk.of_step (Step.loop (fun g t => (g = m + 1 /\ t = sKERR0 x n c A B M M2) ∨ ∃ j, 1 <= j /\ j <= m /\ g = m - j /\ t = sKRR0 x n c A B (vk vKRR0 j) (ups M j) M2 j) ?_ (m + 1) _ (.inl ⟨rfl, rfl⟩))
 have key : ∀ j, j < m -> Step Try.prog rd (sKERR0 x n c A B M M2) lk (sKRR0 x n c A B (vk vKRR0 j) (ups M j) M2 j) (fun e t => e = .normal /\ t = sKRR0 x n c A B (vk vKRR0 (j + 1)) (ups M (j + 1)) M2 (j + 1)) := fun j hj => by
  have e1 : vk vKRR0 (j + 1) = VK (vk vKRR0 j) := by
   cases j with
   | zero => rfl
   | succ j => exact (VK2 _).symm
  rw [e1]
  exact Step.stdT (s0 := sKERR0 x n c A B M M2) sw.pg K0_ok (B := BK) (g := hKRR0 x n A B (up (ups M j) j) M2) (knRR0 x n c A B (vk vKRR0 j) (ups M j) M2 j rd) (by rw [hm]; exact pJJ_ok hj (by rw [ups_len]; exact hM) h100) (Nat.le_refl _) (tmKRR0_dead (VK_dead (hvj j)) lvK) (hKRR0_ok _ _ _ _ _ _) rfl (koRR0 ..)
 rintro g t (⟨rfl, rfl⟩ | ⟨j, j1, j2, rfl, rfl⟩)
 ·refine Step.viewM (viewKRR0 x n c A B M M2) ((key 0 h0).mono ?_)
  rintro e' t ⟨rfl, rfl⟩
  exact .inl ⟨rfl, m - 1, by omega, .inr ⟨0 + 1, by omega, by omega, by omega, rfl⟩⟩
 ·by_cases hj : j = m
  ·subst hj
   obtain ⟨i, rfl⟩ : ∃ i, j = i + 1 := ⟨j - 1, by omega⟩
   refine (Step.stdT (s0 := sKERR0 x n c A B M M2) sw.pg K0_ok (B := BK) (g := hKRR0 x n A B (ups M (i + 1)) M2) (kxRR0 x n c A B vKRR0 (ups M (i + 1)) M2 (i + 1) rd) ⟨trivial, by rw [hm]; simp only [nI, decide_eq_false_iff_not]; omega⟩ (Nat.le_refl _) (tmKRR0_dead (VK_dead vKRR0_dead) lvK) (hKRR0_ok _ _ _ _ _ _) rfl (koRR0 ..)).mono ?_
   rintro e' t ⟨rfl, rfl⟩
   exact .inr ⟨(by intro x; cases x), rfl, rfl⟩
  ·refine (key j (by omega)).mono ?_
   rintro e' t ⟨rfl, rfl⟩
   exact .inl ⟨rfl, m - (j + 1), by omega, .inr ⟨j + 1, by omega, by omega, by omega, rfl⟩⟩
def JKRR1 (i : Nat) : Bool := (Nat.ble 0 i && Nat.ble i 1) || Nat.beq i 8 || Nat.beq i 10 || (Nat.ble 31 i && Nat.ble i 40) || (Nat.ble 42 i && Nat.ble i 47) || (Nat.ble 50 i && Nat.ble i 51) || (Nat.ble 53 i && Nat.ble i 54) || (Nat.ble 56 i && Nat.ble i 57) || (Nat.ble 59 i && Nat.ble i 65) || (Nat.ble 67 i && Nat.ble i 90)
def vKRR1 : VF := fun i => match JKRR1 i with
 | true => junk
 | false => match (Nat.beq i 48 || Nat.beq i 66) with
  | true => .agg #[junk, junk]
  | false => match (Nat.beq i 49 || Nat.beq i 52) || (Nat.beq i 55 || Nat.beq i 58) with
   | true => .tuple #[junk, junk]
   | false => undef
theorem vKRR1_dead (i : Nat) : DeadV (vKRR1 i) := by
 unfold vKRR1
 split
 ·exact DeadV.junk
 ·split
  ·exact ⟨rfl, fun _ => rfl, fun _ => rfl⟩
  ·split
   ·exact ⟨rfl, fun _ => rfl, fun _ => rfl⟩
   ·exact DeadV.undef
theorem knRR1 (x : Acts) (n c : Nat) (A B : Sd) (v : VF) (M M2 : List Int) (j : Nat) (rd : Option Nat) : goK (sKRR1 x n c A B v M M2 j) rd oK (sKRR1 x n c A B (VK v) (up M j) M2 (j + 1)) = some (.normal, pJJ B.y.n M j, seenAsT BK (sKRR1 x n c A B (VK v) (up M j) M2 (j + 1)) [] 106) := by kernel_rfl
theorem kxRR1 (x : Acts) (n c : Nat) (A B : Sd) (v : VF) (M M2 : List Int) (j : Nat) (rd : Option Nat) : goK (sKRR1 x n c A B (VK v) M M2 j) rd [none, F] (sKRR1 x n c A B (VK v) M M2 j) = some (.exit 2, True /\ decide (nI j < nI (0 + B.y.n)) = false, seenAsT BK (sKRR1 x n c A B (VK v) M M2 j) [] 106) := by kernel_rfl
theorem koRR1 (tE : List Value) (gE : Nat -> Option Ob) (x : Acts) (n c : Nat) (A B : Sd) (v : VF) (M M2 : List Int) (j : Nat) : picOkT BK (⟨tE, [], Tr.rebuild gE 106, 106, 2, [], fun _ => false, True, []⟩ : St) (sKRR1 x n c A B (VK v) M M2 j) [] = true := by kernel_rfl
def tKERR1 (n c : Nat) (A B : Sd) : List Value := (junk :: junk :: S n c :: rp undef 3 (.bool false :: .pointer (some ⟨7, 0, none⟩) :: junk :: .int .i64 0 :: junk :: .int .i64 0 :: .slice (some ⟨104, 0, none⟩) 2 2 :: .pointer (some ⟨105, 0, none⟩) :: .int .i64 1 :: .int .i64 0 :: rp undef 15 (rp junk 10 (undef :: rp junk 6 (.agg #[junk, junk] :: .tuple #[junk, junk] :: junk :: junk :: .tuple #[junk, junk] :: junk :: junk :: .tuple #[junk, junk] :: junk :: junk :: .tuple #[junk, junk] :: rp junk 7 (.agg #[junk, junk] :: rp junk 24 (rp undef 170 [])))))))
def sKERR1 (x : Acts) (n c : Nat) (A B : Sd) (M M2 : List Int) : St := ⟨tKERR1 n c A B, [], Tr.rebuild (hKRR1 x n A B M M2) 106, 106, 2, [], fun _ => false, True, []⟩
theorem seeKRR1 (x : Acts) (n c : Nat) (A B : Sd) (M M2 : List Int) : seenInT allB (sKERR1 x n c A B M M2) (sKRR1 x n c A B vKRR1 M M2 0) [] = seenAsT allB (sKRR1 x n c A B vKRR1 M M2 0) [] 106 := by kernel_rfl
theorem viewKRR1 (x : Acts) (n c : Nat) (A B : Sd) (M M2 : List Int) : ViewM (sKERR1 x n c A B M M2) (sKERR1 x n c A B M M2) (sKRR1 x n c A B vKRR1 M M2 0) (nm []) :=
 ViewM.stdT (f := hKRR1 x n A B M M2) (tmKRR1_dead vKRR1_dead (fun _ _ => rfl)) (hKRR1_ok _ _ _ _ _ _) rfl (by kernel_rfl) (seeKRR1 x n c A B M M2)
theorem loopKRR1 (x : Acts) (n c : Nat) (A B : Sd) (M M2 : List Int) (m : Nat) (hm : B.y.n = m) (h0 : 0 < m) (h100 : m <= 1000) (hM : M.length = m) (rd : Option Nat) :
  CodeOk Try.prog rd (.loop lk) (sKERR1 x n c A B M M2) (.exit 2) (sKRR1 x n c A B (VK vKRR1) (ups M m) M2 m) := by
 have hvj : ∀ j i, DeadV (vk vKRR1 j i) := fun j i => by
  cases j with
  | zero => exact vKRR1_dead i
  | succ j => exact VK_dead vKRR1_dead i
 refine CodeOk.of_step (Step.loop (fun g t => (g = m + 1 /\ t = sKERR1 x n c A B M M2) ∨ ∃ j, 1 <= j /\ j <= m /\ g = m - j /\ t = sKRR1 x n c A B (vk vKRR1 j) (ups M j) M2 j) ?_ (m + 1) _ (.inl ⟨rfl, rfl⟩))
 have key : ∀ j, j < m -> Step Try.prog rd (sKERR1 x n c A B M M2) lk (sKRR1 x n c A B (vk vKRR1 j) (ups M j) M2 j) (fun e t => e = .normal /\ t = sKRR1 x n c A B (vk vKRR1 (j + 1)) (ups M (j + 1)) M2 (j + 1)) := fun j hj => by
  have e1 : vk vKRR1 (j + 1) = VK (vk vKRR1 j) := by
   cases j with
   | zero => rfl
   | succ j => exact (VK2 _).symm
  rw [e1]
  exact Step.stdT (s0 := sKERR1 x n c A B M M2) sw.pg K0_ok (B := BK) (g := hKRR1 x n A B (up (ups M j) j) M2) (knRR1 x n c A B (vk vKRR1 j) (ups M j) M2 j rd) (by rw [hm]; exact pJJ_ok hj (by rw [ups_len]; exact hM) h100) (Nat.le_refl _) (tmKRR1_dead (VK_dead (hvj j)) lvK) (hKRR1_ok _ _ _ _ _ _) rfl (koRR1 ..)
 rintro g t (⟨rfl, rfl⟩ | ⟨j, j1, j2, rfl, rfl⟩)
 ·refine Step.viewM (viewKRR1 x n c A B M M2) ((key 0 h0).mono ?_)
  rintro e' t ⟨rfl, rfl⟩
  exact .inl ⟨rfl, m - 1, by omega, .inr ⟨0 + 1, by omega, by omega, by omega, rfl⟩⟩
 ·by_cases hj : j = m
  ·subst hj
   obtain ⟨i, rfl⟩ : ∃ i, j = i + 1 := ⟨j - 1, by omega⟩
   refine (Step.stdT (s0 := sKERR1 x n c A B M M2) sw.pg K0_ok (B := BK) (g := hKRR1 x n A B (ups M (i + 1)) M2) (kxRR1 x n c A B vKRR1 (ups M (i + 1)) M2 (i + 1) rd) ⟨trivial, by rw [hm]; simp only [nI, decide_eq_false_iff_not]; omega⟩ (Nat.le_refl _) (tmKRR1_dead (VK_dead vKRR1_dead) lvK) (hKRR1_ok _ _ _ _ _ _) rfl (koRR1 ..)).mono ?_
   rintro e' t ⟨rfl, rfl⟩
   exact .inr ⟨(by intro x; cases x), rfl, rfl⟩
  ·refine (key j (by omega)).mono ?_
   rintro e' t ⟨rfl, rfl⟩
   exact .inl ⟨rfl, m - (j + 1), by omega, .inr ⟨j + 1, by omega, by omega, by omega, rfl⟩⟩
def zI (KF : hd.KT') (Aw : hd.AT) (K : List Int) (y : hq.KY) : Sd := ⟨Aw (hd.xl (KF K) 54) (hz.hOf hz.l0), IntKind.i64.wrap (intAt hz.l0 70 + ((64 : Nat) : Int)), KF K, y, [], 0, 0⟩
def nulS : Value := .slice none 0 0
def hN (x : Acts) (n : Nat) (A B : Sd) : Nat -> Option Ob := HH x n A B nulS nulS none none
def sN (x : Acts) (n c : Nat) (A B : Sd) (v : VF) : St := ⟨tm v n c 0, [], Tr.rebuild (hN x n A B) 113, 113, 2, [], fun _ => false, True, []⟩
def JEEE (i : Nat) : Bool := (Nat.ble 0 i && Nat.ble i 1) || (Nat.ble 7 i && Nat.ble i 8) || Nat.beq i 10 || (Nat.ble 14 i && Nat.ble i 15) || (Nat.ble 31 i && Nat.ble i 40) || (Nat.ble 42 i && Nat.ble i 47) || (Nat.ble 50 i && Nat.ble i 51) || (Nat.ble 53 i && Nat.ble i 54) || (Nat.ble 56 i && Nat.ble i 57) || (Nat.ble 59 i && Nat.ble i 65) || (Nat.ble 67 i && Nat.ble i 76)
def vEEE : VF := fun i => match JEEE i with
 | true => junk
 | false => match (Nat.beq i 48 || Nat.beq i 66) with
  | true => .agg #[junk, junk]
  | false => match (Nat.beq i 49 || Nat.beq i 52) || (Nat.beq i 55 || Nat.beq i 58) with
   | true => .tuple #[junk, junk]
   | false => undef
theorem vEEE_dead (i : Nat) : DeadV (vEEE i) := by
 unfold vEEE
 split
 ·exact DeadV.junk
 ·split
  ·exact ⟨rfl, fun _ => rfl, fun _ => rfl⟩
  ·split
   ·exact ⟨rfl, fun _ => rfl, fun _ => rfl⟩
   ·exact DeadV.undef
def tEEE (n c : Nat) (A B : Sd) : List Value := (junk :: junk :: S n c :: rp undef 3 (.bool false :: junk :: junk :: .int .i64 0 :: junk :: .int .i64 0 :: .slice (some ⟨104, 0, none⟩) 2 2 :: .pointer (some ⟨105, 0, none⟩) :: junk :: junk :: .pointer (some ⟨106, 0, none⟩) :: .int .i64 0 :: rp undef 13 (rp junk 10 (undef :: rp junk 6 (.agg #[.slice (some ⟨3, 0, none⟩) (0 + A.y.n) 0, .slice (some ⟨4, 0, none⟩) (0 + B.y.n) 0] :: .tuple #[.pointer (some ⟨54, 0, none⟩), .int .i64 0] :: junk :: junk :: .tuple #[.pointer (some ⟨54, 0, none⟩), .int .i64 0] :: junk :: junk :: .tuple #[.pointer (some ⟨103, 0, none⟩), .int .i64 0] :: junk :: junk :: .tuple #[.pointer (some ⟨103, 0, none⟩), .int .i64 0] :: rp junk 7 (.agg #[hq.kv A.y, hq.kv B.y] :: rp junk 10 (rp undef 184 [])))))))
def gEEE (x : Acts) (n : Nat) (A B : Sd) : Nat -> Option Ob := fun i => match i with
 | 0 => some (.fam x.F)
 | 1 => some (.cells (.rows n 3 x.row) 0)
 | 44 => ad A
 | 54 => md 44 A
 | 93 => ad B
 | 103 => md 93 B
 | 104 => some (.cells (.lit [.pointer (some ⟨54, 0, none⟩), .pointer (some ⟨103, 0, none⟩)]) 27)
 | 105 => some (.cells (.lit [hq.kv A.y, hq.kv B.y]) 26)
 | 106 => some (.cells (.lit [nulS, nulS]) 26)
 | _ => none
theorem seeEEE (x : Acts) (n c : Nat) (A B : Sd) : seenInT allB (sE (tEEE n c A B) (gEEE x n A B)) (sN x n c A B vEEE) (ir 107 [54, 103, 44, 93, 111, 112]) = seenAsT allB (sN x n c A B vEEE) (ir 107 [54, 103, 44, 93, 111, 112]) 107 := by kernel_rfl
theorem viewEEE (x : Acts) (n c : Nat) (A B : Sd) : ViewM (sE (tEEE n c A B) (gEEE x n A B)) (sE (tEEE n c A B) (gEEE x n A B)) (sN x n c A B vEEE) (nm (ir 107 [54, 103, 44, 93, 111, 112])) :=
 ViewM.stdT (f := hN x n A B) (tm_dead vEEE_dead (fun _ _ => rfl)) (HH_ok (.inl rfl) (.inl rfl)) rfl (by kernel_rfl) (seeEEE x n c A B)
theorem startEEE {x : Acts} {n c : Nat} {A B : Sd} (rd : Option Nat) (Q : Exit -> St -> Prop) (h : Step Try.prog rd (sE (tEEE n c A B) (gEEE x n A B)) lb (st HEE x n c 0 A B vEEE) Q) : Step Try.prog rd (sE (tEEE n c A B) (gEEE x n A B)) lb (sE (tEEE n c A B) (gEEE x n A B)) Q :=
 Step.viewM (viewEEE x n c A B) (Step.weak (wk_HH (.inr ⟨rfl, none, rfl⟩) (.inr ⟨rfl, none, rfl⟩)) h)
def JERE (i : Nat) : Bool := (Nat.ble 0 i && Nat.ble i 1) || (Nat.ble 7 i && Nat.ble i 8) || Nat.beq i 10 || (Nat.ble 14 i && Nat.ble i 15) || (Nat.ble 31 i && Nat.ble i 40) || (Nat.ble 42 i && Nat.ble i 47) || (Nat.ble 50 i && Nat.ble i 51) || (Nat.ble 53 i && Nat.ble i 54) || (Nat.ble 56 i && Nat.ble i 57) || (Nat.ble 59 i && Nat.ble i 65) || (Nat.ble 67 i && Nat.ble i 90)
def vERE : VF := fun i => match JERE i with
 | true => junk
 | false => match (Nat.beq i 48 || Nat.beq i 66) with
  | true => .agg #[junk, junk]
  | false => match (Nat.beq i 49 || Nat.beq i 52) || (Nat.beq i 55 || Nat.beq i 58) with
   | true => .tuple #[junk, junk]
   | false => undef
theorem vERE_dead (i : Nat) : DeadV (vERE i) := by
 unfold vERE
 split
 ·exact DeadV.junk
 ·split
  ·exact ⟨rfl, fun _ => rfl, fun _ => rfl⟩
  ·split
   ·exact ⟨rfl, fun _ => rfl, fun _ => rfl⟩
   ·exact DeadV.undef
def tERE (n c : Nat) (A B : Sd) : List Value := (junk :: junk :: S n c :: rp undef 3 (.bool false :: junk :: junk :: .int .i64 0 :: junk :: .int .i64 0 :: .slice (some ⟨104, 0, none⟩) 2 2 :: .pointer (some ⟨105, 0, none⟩) :: junk :: junk :: .pointer (some ⟨106, 0, none⟩) :: .int .i64 0 :: rp undef 13 (rp junk 10 (undef :: rp junk 6 (.agg #[junk, junk] :: .tuple #[junk, junk] :: junk :: junk :: .tuple #[junk, junk] :: junk :: junk :: .tuple #[junk, junk] :: junk :: junk :: .tuple #[junk, junk] :: rp junk 7 (.agg #[junk, junk] :: rp junk 24 (rp undef 170 [])))))))
def gERE (x : Acts) (n : Nat) (A B : Sd) : Nat -> Option Ob := fun i => match i with
 | 0 => some (.fam x.F)
 | 1 => some (.cells (.rows n 3 x.row) 0)
 | 44 => ad A
 | 54 => md 44 A
 | 93 => ad B
 | 103 => md 93 B
 | 104 => some (.cells (.lit [.pointer (some ⟨54, 0, none⟩), .pointer (some ⟨103, 0, none⟩)]) 27)
 | 105 => some (.cells (.lit [hq.kv A.y, hq.kv B.y]) 26)
 | 106 => some (.cells (.lit [nulS, nulS]) 26)
 | _ => none
theorem seeERE (x : Acts) (n c : Nat) (A B : Sd) : seenInT allB (sE (tERE n c A B) (gERE x n A B)) (sN x n c A B vERE) (ir 107 [54, 103, 44, 93, 111, 112]) = seenAsT allB (sN x n c A B vERE) (ir 107 [54, 103, 44, 93, 111, 112]) 107 := by kernel_rfl
theorem viewERE (x : Acts) (n c : Nat) (A B : Sd) : ViewM (sE (tERE n c A B) (gERE x n A B)) (sE (tERE n c A B) (gERE x n A B)) (sN x n c A B vERE) (nm (ir 107 [54, 103, 44, 93, 111, 112])) :=
 ViewM.stdT (f := hN x n A B) (tm_dead vERE_dead (fun _ _ => rfl)) (HH_ok (.inl rfl) (.inl rfl)) rfl (by kernel_rfl) (seeERE x n c A B)
theorem startERE {x : Acts} {n c : Nat} {A B : Sd} (rd : Option Nat) (Q : Exit -> St -> Prop) (h : Step Try.prog rd (sE (tERE n c A B) (gERE x n A B)) lb (st HEE x n c 0 A B vERE) Q) : Step Try.prog rd (sE (tERE n c A B) (gERE x n A B)) lb (sE (tERE n c A B) (gERE x n A B)) Q :=
 Step.viewM (viewERE x n c A B) (Step.weak (wk_HH (.inr ⟨rfl, none, rfl⟩) (.inr ⟨rfl, none, rfl⟩)) h)
def JEER (i : Nat) : Bool := (Nat.ble 0 i && Nat.ble i 1) || (Nat.ble 7 i && Nat.ble i 8) || Nat.beq i 10 || (Nat.ble 14 i && Nat.ble i 15) || (Nat.ble 31 i && Nat.ble i 40) || (Nat.ble 42 i && Nat.ble i 47) || (Nat.ble 50 i && Nat.ble i 51) || (Nat.ble 53 i && Nat.ble i 54) || (Nat.ble 56 i && Nat.ble i 57) || (Nat.ble 59 i && Nat.ble i 65) || (Nat.ble 67 i && Nat.ble i 90)
def vEER : VF := fun i => match JEER i with
 | true => junk
 | false => match (Nat.beq i 48 || Nat.beq i 66) with
  | true => .agg #[junk, junk]
  | false => match (Nat.beq i 49 || Nat.beq i 52) || (Nat.beq i 55 || Nat.beq i 58) with
   | true => .tuple #[junk, junk]
   | false => undef
theorem vEER_dead (i : Nat) : DeadV (vEER i) := by
 unfold vEER
 split
 ·exact DeadV.junk
 ·split
  ·exact ⟨rfl, fun _ => rfl, fun _ => rfl⟩
  ·split
   ·exact ⟨rfl, fun _ => rfl, fun _ => rfl⟩
   ·exact DeadV.undef
def tEER (n c : Nat) (A B : Sd) : List Value := (junk :: junk :: S n c :: rp undef 3 (.bool false :: junk :: junk :: .int .i64 0 :: junk :: .int .i64 0 :: .slice (some ⟨104, 0, none⟩) 2 2 :: .pointer (some ⟨105, 0, none⟩) :: junk :: junk :: .pointer (some ⟨106, 0, none⟩) :: .int .i64 0 :: rp undef 13 (rp junk 10 (undef :: rp junk 6 (.agg #[junk, junk] :: .tuple #[junk, junk] :: junk :: junk :: .tuple #[junk, junk] :: junk :: junk :: .tuple #[junk, junk] :: junk :: junk :: .tuple #[junk, junk] :: rp junk 7 (.agg #[junk, junk] :: rp junk 24 (rp undef 170 [])))))))
def gEER (x : Acts) (n : Nat) (A B : Sd) : Nat -> Option Ob := fun i => match i with
 | 0 => some (.fam x.F)
 | 1 => some (.cells (.rows n 3 x.row) 0)
 | 45 => ad A
 | 55 => md 45 A
 | 93 => ad B
 | 103 => md 93 B
 | 104 => some (.cells (.lit [.pointer (some ⟨55, 0, none⟩), .pointer (some ⟨103, 0, none⟩)]) 27)
 | 105 => some (.cells (.lit [hq.kv A.y, hq.kv B.y]) 26)
 | 106 => some (.cells (.lit [nulS, nulS]) 26)
 | _ => none
theorem seeEER (x : Acts) (n c : Nat) (A B : Sd) : seenInT allB (sE (tEER n c A B) (gEER x n A B)) (sN x n c A B vEER) (ir 107 [55, 103, 45, 93, 111, 112]) = seenAsT allB (sN x n c A B vEER) (ir 107 [55, 103, 45, 93, 111, 112]) 107 := by kernel_rfl
theorem viewEER (x : Acts) (n c : Nat) (A B : Sd) : ViewM (sE (tEER n c A B) (gEER x n A B)) (sE (tEER n c A B) (gEER x n A B)) (sN x n c A B vEER) (nm (ir 107 [55, 103, 45, 93, 111, 112])) :=
 ViewM.stdT (f := hN x n A B) (tm_dead vEER_dead (fun _ _ => rfl)) (HH_ok (.inl rfl) (.inl rfl)) rfl (by kernel_rfl) (seeEER x n c A B)
theorem startEER {x : Acts} {n c : Nat} {A B : Sd} (rd : Option Nat) (Q : Exit -> St -> Prop) (h : Step Try.prog rd (sE (tEER n c A B) (gEER x n A B)) lb (st HEE x n c 0 A B vEER) Q) : Step Try.prog rd (sE (tEER n c A B) (gEER x n A B)) lb (sE (tEER n c A B) (gEER x n A B)) Q :=
 Step.viewM (viewEER x n c A B) (Step.weak (wk_HH (.inr ⟨rfl, none, rfl⟩) (.inr ⟨rfl, none, rfl⟩)) h)
def JERR (i : Nat) : Bool := (Nat.ble 0 i && Nat.ble i 1) || (Nat.ble 7 i && Nat.ble i 8) || Nat.beq i 10 || (Nat.ble 14 i && Nat.ble i 15) || (Nat.ble 31 i && Nat.ble i 40) || (Nat.ble 42 i && Nat.ble i 47) || (Nat.ble 50 i && Nat.ble i 51) || (Nat.ble 53 i && Nat.ble i 54) || (Nat.ble 56 i && Nat.ble i 57) || (Nat.ble 59 i && Nat.ble i 65) || (Nat.ble 67 i && Nat.ble i 90)
def vERR : VF := fun i => match JERR i with
 | true => junk
 | false => match (Nat.beq i 48 || Nat.beq i 66) with
  | true => .agg #[junk, junk]
  | false => match (Nat.beq i 49 || Nat.beq i 52) || (Nat.beq i 55 || Nat.beq i 58) with
   | true => .tuple #[junk, junk]
   | false => undef
theorem vERR_dead (i : Nat) : DeadV (vERR i) := by
 unfold vERR
 split
 ·exact DeadV.junk
 ·split
  ·exact ⟨rfl, fun _ => rfl, fun _ => rfl⟩
  ·split
   ·exact ⟨rfl, fun _ => rfl, fun _ => rfl⟩
   ·exact DeadV.undef
def tERR (n c : Nat) (A B : Sd) : List Value := (junk :: junk :: S n c :: rp undef 3 (.bool false :: junk :: junk :: .int .i64 0 :: junk :: .int .i64 0 :: .slice (some ⟨104, 0, none⟩) 2 2 :: .pointer (some ⟨105, 0, none⟩) :: junk :: junk :: .pointer (some ⟨106, 0, none⟩) :: .int .i64 0 :: rp undef 13 (rp junk 10 (undef :: rp junk 6 (.agg #[junk, junk] :: .tuple #[junk, junk] :: junk :: junk :: .tuple #[junk, junk] :: junk :: junk :: .tuple #[junk, junk] :: junk :: junk :: .tuple #[junk, junk] :: rp junk 7 (.agg #[junk, junk] :: rp junk 24 (rp undef 170 [])))))))
def gERR (x : Acts) (n : Nat) (A B : Sd) : Nat -> Option Ob := fun i => match i with
 | 0 => some (.fam x.F)
 | 1 => some (.cells (.rows n 3 x.row) 0)
 | 45 => ad A
 | 55 => md 45 A
 | 93 => ad B
 | 103 => md 93 B
 | 104 => some (.cells (.lit [.pointer (some ⟨55, 0, none⟩), .pointer (some ⟨103, 0, none⟩)]) 27)
 | 105 => some (.cells (.lit [hq.kv A.y, hq.kv B.y]) 26)
 | 106 => some (.cells (.lit [nulS, nulS]) 26)
 | _ => none
theorem seeERR (x : Acts) (n c : Nat) (A B : Sd) : seenInT allB (sE (tERR n c A B) (gERR x n A B)) (sN x n c A B vERR) (ir 107 [55, 103, 45, 93, 111, 112]) = seenAsT allB (sN x n c A B vERR) (ir 107 [55, 103, 45, 93, 111, 112]) 107 := by kernel_rfl
theorem viewERR (x : Acts) (n c : Nat) (A B : Sd) : ViewM (sE (tERR n c A B) (gERR x n A B)) (sE (tERR n c A B) (gERR x n A B)) (sN x n c A B vERR) (nm (ir 107 [55, 103, 45, 93, 111, 112])) :=
 ViewM.stdT (f := hN x n A B) (tm_dead vERR_dead (fun _ _ => rfl)) (HH_ok (.inl rfl) (.inl rfl)) rfl (by kernel_rfl) (seeERR x n c A B)
theorem startERR {x : Acts} {n c : Nat} {A B : Sd} (rd : Option Nat) (Q : Exit -> St -> Prop) (h : Step Try.prog rd (sE (tERR n c A B) (gERR x n A B)) lb (st HEE x n c 0 A B vERR) Q) : Step Try.prog rd (sE (tERR n c A B) (gERR x n A B)) lb (sE (tERR n c A B) (gERR x n A B)) Q :=
 Step.viewM (viewERR x n c A B) (Step.weak (wk_HH (.inr ⟨rfl, none, rfl⟩) (.inr ⟨rfl, none, rfl⟩)) h)
def askEE (X0 X1 : St) (e : Exit) (X : St) (f : FuncId) (c : Code) (s : Go.Cln.St) : Option Ask2 := if f == 3 then match getL s.tmps 17 with
 | .int _ _ => some ⟨⟨[0, 1, 7, 8, 10, 14, 15, 31, 32, 33, 34, 35, 36, 37, 38, 39, 40, 42, 43, 44, 45, 46, 47, 50, 51, 53, 54, 56, 57, 59, 60, 61, 62, 63, 64, 65, 67, 68, 69, 70, 71, 72, 73, 74, 75, 76], [], [], [2, 3, 4, 5, 6, 7, 8, 9, 10, 11, 12, 13, 14, 15, 16, 17, 18, 19, 20, 21, 22, 23, 24, 25, 26, 27, 28, 29, 30, 31, 32, 33, 34, 35, 36, 37, 38, 39, 40, 41, 42, 43, 45, 46, 47, 48, 49, 50, 51, 52, 53, 55, 56, 57, 58, 59, 60, 61, 62, 63, 64, 65, 66, 67, 68, 69, 70, 71, 72, 73, 74, 75, 76, 77, 78, 79, 80, 81, 82, 83, 84, 85, 86, 87, 88, 89, 90, 91, 92, 94, 95, 96, 97, 98, 99, 100, 101, 102]⟩, e, fun _ => X⟩
 | _ => match getL s.tmps 15 with
  | .int _ _ => match getL s.tmps 14 with
   | .int _ z => if z == 0 then none else none
   | _ => none
  | _ => none
 else none
def KXEE (x : Acts) (KF : hd.KT') (Aw : hd.AT) (TT : hq.TTf) (TG : hq.TGf) (X0 X1 : St) (e : Exit) (X : St) : Given := Given.asking2 (KT x KF Aw TT TG) Try.prog (askEE X0 X1 e X)
theorem KXEE_ok (x : Acts) (KF : hd.KT') (Aw : hd.AT) (TT : hq.TTf) (TG : hq.TGf) (X0 X1 : St) (e : Exit) (X : St) : GivenOk Try.prog (KXEE x KF Aw TT TG X0 X1 e X) := (KT_ok x KF Aw TT TG).asking2 _
def askRE (X0 X1 : St) (e : Exit) (X : St) (f : FuncId) (c : Code) (s : Go.Cln.St) : Option Ask2 := if f == 3 then match getL s.tmps 17 with
 | .int _ _ => some ⟨⟨[0, 1, 7, 8, 10, 14, 15, 31, 32, 33, 34, 35, 36, 37, 38, 39, 40, 42, 43, 44, 45, 46, 47, 50, 51, 53, 54, 56, 57, 59, 60, 61, 62, 63, 64, 65, 67, 68, 69, 70, 71, 72, 73, 74, 75, 76, 77, 78, 79, 80, 81, 82, 83, 84, 85, 86, 87, 88, 89, 90], [], [], [2, 3, 4, 5, 6, 7, 8, 9, 10, 11, 12, 13, 14, 15, 16, 17, 18, 19, 20, 21, 22, 23, 24, 25, 26, 27, 28, 29, 30, 31, 32, 33, 34, 35, 36, 37, 38, 39, 40, 41, 42, 43, 45, 46, 47, 48, 49, 50, 51, 52, 53, 55, 56, 57, 58, 59, 60, 61, 62, 63, 64, 65, 66, 67, 68, 69, 70, 71, 72, 73, 74, 75, 76, 77, 78, 79, 80, 81, 82, 83, 84, 85, 86, 87, 88, 89, 90, 91, 92, 94, 95, 96, 97, 98, 99, 100, 101, 102]⟩, e, fun _ => X⟩
 | _ => match getL s.tmps 15 with
  | .int _ _ => match getL s.tmps 14 with
   | .int _ z => if z == 0 then some ⟨⟨[0, 1, 8, 10, 31, 32, 33, 34, 35, 36, 37, 38, 39, 40, 42, 43, 44, 45, 46, 47, 50, 51, 53, 54, 56, 57, 59, 60, 61, 62, 63, 64, 65, 67, 68], [], [], [2, 3, 5, 7, 8, 9, 10, 11, 12, 13, 14, 15, 16, 17, 18, 19, 20, 21, 22, 23, 24, 25, 26, 27, 28, 29, 30, 31, 32, 33, 34, 35, 36, 37, 38, 39, 40, 41, 42, 43, 45, 46, 47, 48, 49, 50, 51, 52, 53, 55, 56, 57, 58, 59, 60, 61, 62, 63, 64, 65, 66, 67, 68, 69, 70, 71, 72, 73, 74, 75, 76, 77, 78, 79, 80, 81, 82, 83, 84, 85, 86, 87, 88, 89, 90, 91, 92, 94, 95, 96, 97, 98, 99, 100, 101, 102]⟩, .exit 2, fun _ => X0⟩ else none
   | _ => none
  | _ => none
 else none
def KXRE (x : Acts) (KF : hd.KT') (Aw : hd.AT) (TT : hq.TTf) (TG : hq.TGf) (X0 X1 : St) (e : Exit) (X : St) : Given := Given.asking2 (KT x KF Aw TT TG) Try.prog (askRE X0 X1 e X)
theorem KXRE_ok (x : Acts) (KF : hd.KT') (Aw : hd.AT) (TT : hq.TTf) (TG : hq.TGf) (X0 X1 : St) (e : Exit) (X : St) : GivenOk Try.prog (KXRE x KF Aw TT TG X0 X1 e X) := (KT_ok x KF Aw TT TG).asking2 _
def askER (X0 X1 : St) (e : Exit) (X : St) (f : FuncId) (c : Code) (s : Go.Cln.St) : Option Ask2 := if f == 3 then match getL s.tmps 17 with
 | .int _ _ => some ⟨⟨[0, 1, 7, 8, 10, 14, 15, 31, 32, 33, 34, 35, 36, 37, 38, 39, 40, 42, 43, 44, 45, 46, 47, 50, 51, 53, 54, 56, 57, 59, 60, 61, 62, 63, 64, 65, 67, 68, 69, 70, 71, 72, 73, 74, 75, 76, 77, 78, 79, 80, 81, 82, 83, 84, 85, 86, 87, 88, 89, 90], [], [], [2, 3, 4, 5, 6, 7, 8, 9, 10, 11, 12, 13, 14, 15, 16, 17, 18, 19, 20, 21, 22, 23, 24, 25, 26, 27, 28, 29, 30, 31, 32, 33, 34, 35, 36, 37, 38, 39, 40, 41, 42, 43, 44, 46, 47, 48, 49, 50, 51, 52, 53, 54, 56, 57, 58, 59, 60, 61, 62, 63, 64, 65, 66, 67, 68, 69, 70, 71, 72, 73, 74, 75, 76, 77, 78, 79, 80, 81, 82, 83, 84, 85, 86, 87, 88, 89, 90, 91, 92, 94, 95, 96, 97, 98, 99, 100, 101, 102]⟩, e, fun _ => X⟩
 | _ => match getL s.tmps 15 with
  | .int _ _ => match getL s.tmps 14 with
   | .int _ z => if z == 0 then none else some ⟨⟨[0, 1, 8, 10, 31, 32, 33, 34, 35, 36, 37, 38, 39, 40, 42, 43, 44, 45, 46, 47, 50, 51, 53, 54, 56, 57, 59, 60, 61, 62, 63, 64, 65, 67, 68, 69, 70, 71, 72, 73, 74, 75, 76], [], [], [2, 3, 4, 7, 8, 9, 10, 11, 12, 13, 14, 15, 16, 17, 18, 19, 20, 21, 22, 23, 24, 25, 26, 27, 28, 29, 30, 31, 32, 33, 34, 35, 36, 37, 38, 39, 40, 41, 42, 43, 44, 46, 47, 48, 49, 50, 51, 52, 53, 54, 56, 57, 58, 59, 60, 61, 62, 63, 64, 65, 66, 67, 68, 69, 70, 71, 72, 73, 74, 75, 76, 77, 78, 79, 80, 81, 82, 83, 84, 85, 86, 87, 88, 89, 90, 91, 92, 94, 95, 96, 97, 98, 99, 100, 101, 102]⟩, .exit 2, fun _ => X1⟩
   | _ => none
  | _ => none
 else none
def KXER (x : Acts) (KF : hd.KT') (Aw : hd.AT) (TT : hq.TTf) (TG : hq.TGf) (X0 X1 : St) (e : Exit) (X : St) : Given := Given.asking2 (KT x KF Aw TT TG) Try.prog (askER X0 X1 e X)
theorem KXER_ok (x : Acts) (KF : hd.KT') (Aw : hd.AT) (TT : hq.TTf) (TG : hq.TGf) (X0 X1 : St) (e : Exit) (X : St) : GivenOk Try.prog (KXER x KF Aw TT TG X0 X1 e X) := (KT_ok x KF Aw TT TG).asking2 _
def askRR (X0 X1 : St) (e : Exit) (X : St) (f : FuncId) (c : Code) (s : Go.Cln.St) : Option Ask2 := if f == 3 then match getL s.tmps 17 with
 | .int _ _ => some ⟨⟨[0, 1, 7, 8, 10, 14, 15, 31, 32, 33, 34, 35, 36, 37, 38, 39, 40, 42, 43, 44, 45, 46, 47, 50, 51, 53, 54, 56, 57, 59, 60, 61, 62, 63, 64, 65, 67, 68, 69, 70, 71, 72, 73, 74, 75, 76, 77, 78, 79, 80, 81, 82, 83, 84, 85, 86, 87, 88, 89, 90], [], [], [2, 3, 4, 5, 6, 7, 8, 9, 10, 11, 12, 13, 14, 15, 16, 17, 18, 19, 20, 21, 22, 23, 24, 25, 26, 27, 28, 29, 30, 31, 32, 33, 34, 35, 36, 37, 38, 39, 40, 41, 42, 43, 44, 46, 47, 48, 49, 50, 51, 52, 53, 54, 56, 57, 58, 59, 60, 61, 62, 63, 64, 65, 66, 67, 68, 69, 70, 71, 72, 73, 74, 75, 76, 77, 78, 79, 80, 81, 82, 83, 84, 85, 86, 87, 88, 89, 90, 91, 92, 94, 95, 96, 97, 98, 99, 100, 101, 102]⟩, e, fun _ => X⟩
 | _ => match getL s.tmps 15 with
  | .int _ _ => match getL s.tmps 14 with
   | .int _ z => if z == 0 then some ⟨⟨[0, 1, 8, 10, 31, 32, 33, 34, 35, 36, 37, 38, 39, 40, 42, 43, 44, 45, 46, 47, 50, 51, 53, 54, 56, 57, 59, 60, 61, 62, 63, 64, 65, 67, 68], [], [], [2, 3, 5, 8, 9, 10, 11, 12, 13, 14, 15, 16, 17, 18, 19, 20, 21, 22, 23, 24, 25, 26, 27, 28, 29, 30, 31, 32, 33, 34, 35, 36, 37, 38, 39, 40, 41, 42, 43, 44, 46, 47, 48, 49, 50, 51, 52, 53, 54, 56, 57, 58, 59, 60, 61, 62, 63, 64, 65, 66, 67, 68, 69, 70, 71, 72, 73, 74, 75, 76, 77, 78, 79, 80, 81, 82, 83, 84, 85, 86, 87, 88, 89, 90, 91, 92, 94, 95, 96, 97, 98, 99, 100, 101, 102]⟩, .exit 2, fun _ => X0⟩ else some ⟨⟨[0, 1, 8, 10, 31, 32, 33, 34, 35, 36, 37, 38, 39, 40, 42, 43, 44, 45, 46, 47, 50, 51, 53, 54, 56, 57, 59, 60, 61, 62, 63, 64, 65, 67, 68, 69, 70, 71, 72, 73, 74, 75, 76, 77, 78, 79, 80, 81, 82, 83, 84, 85, 86, 87, 88, 89, 90], [], [], [2, 3, 4, 5, 8, 9, 10, 11, 12, 13, 14, 15, 16, 17, 18, 19, 20, 21, 22, 23, 24, 25, 26, 27, 28, 29, 30, 31, 32, 33, 34, 35, 36, 37, 38, 39, 40, 41, 42, 43, 44, 46, 47, 48, 49, 50, 51, 52, 53, 54, 56, 57, 58, 59, 60, 61, 62, 63, 64, 65, 66, 67, 68, 69, 70, 71, 72, 73, 74, 75, 76, 77, 78, 79, 80, 81, 82, 83, 84, 85, 86, 87, 88, 89, 90, 91, 92, 94, 95, 96, 97, 98, 99, 100, 101, 102]⟩, .exit 2, fun _ => X1⟩
   | _ => none
  | _ => none
 else none
def KXRR (x : Acts) (KF : hd.KT') (Aw : hd.AT) (TT : hq.TTf) (TG : hq.TGf) (X0 X1 : St) (e : Exit) (X : St) : Given := Given.asking2 (KT x KF Aw TT TG) Try.prog (askRR X0 X1 e X)
theorem KXRR_ok (x : Acts) (KF : hd.KT') (Aw : hd.AT) (TT : hq.TTf) (TG : hq.TGf) (X0 X1 : St) (e : Exit) (X : St) : GivenOk Try.prog (KXRR x KF Aw TT TG X0 X1 e X) := (KT_ok x KF Aw TT TG).asking2 _
def KE (x : Acts) (y : hq.KY) : List Int := List.take (0 + y.n) (List.drop 0 (layI [] (0 + 0) (List.take y.n (List.drop 0 (x.D y.Q)))))
def KR (x : Acts) (y : hq.KY) : List Int := List.take (0 + y.n) (List.drop 0 (List.take y.n (List.drop 0 (x.D y.Q))))
def call3 (x : Acts) (y1 y2 : hq.KY) (K : Given) (n c : Nat) (o : List (Option Bool)) : Option (Value × Prop) := ((mk Try.prog K 300).call 3 [hq.kv y1, hq.kv y2, S n c] (smSt 2 (x.heap n) o)).map (fun r => (r.1, r.2.obl))
structure KeyOk (x : Acts) (y : hq.KY) : Prop where
 byt : hx.Byt (hq.WK x y)
 kn : y.n = (hq.WK x y).length
theorem mem_of {x : Acts} {y : hq.KY} (h : KeyOk x y) : y.n = 0 ∨ 0 + y.n <= (x.D y.Q).length := by
 have h1 : y.n = (((x.D y.Q).drop 0).take y.n).length := h.kn
 rw [List.drop_zero, List.length_take] at h1
 omega
theorem KR_eq {x : Acts} {y : hq.KY} (h : KeyOk x y) : KR x y = hq.WK x y := by
 show List.take (0 + y.n) (List.drop 0 (hq.WK x y)) = _
 rw [List.drop_zero]
 exact List.take_of_length_le (by have := h.kn; omega)
theorem KE_eq {x : Acts} {y : hq.KY} (h : KeyOk x y) (h0 : y.n = 0) : KE x y = hq.WK x y := by
 have h1 : hq.WK x y = [] := List.eq_nil_of_length_eq_zero (by rw [← h.kn]; exact h0)
 rw [h1]
 unfold KE
 rw [h0]
 rfl
def askKE (KF : hd.KT') (K : List Int) (n : Nat) : Prop := KF = ha.kb /\ hx.Byt K /\ 0 + n = K.length /\ 0 + n <= 1000 /\ 0 + n = 0
def askKR (KF : hd.KT') (K : List Int) (n : Nat) : Prop := KF = ha.kb /\ hx.Byt K /\ 0 + n = K.length /\ 0 + n <= 1000
theorem aKE {x : Acts} {y : hq.KY} (h : KeyOk x y) (h0 : y.n = 0) : askKE ha.kb (KE x y) y.n := by
 unfold askKE
 rw [KE_eq h h0]
 exact ⟨rfl, h.byt, by rw [← h.kn]; omega, by omega, by omega⟩
theorem aKR' {x : Acts} {y : hq.KY} (h : KeyOk x y) (h5 : y.n <= 500) : askKR ha.kb (KR x y) y.n := by
 unfold askKR
 rw [KR_eq h]
 exact ⟨rfl, h.byt, by rw [← h.kn]; omega, by omega⟩
theorem w36_ok (X : List Int) : hd.w36 hz.AB hz.l0 (hd.xl X 54) 64 64 := hd.Hs.zero.w (hd.xl_len _ _).symm (Nat.le_refl _)
theorem sideI {x : Acts} {y : hq.KY} {K : List Int} (h : KeyOk x y) (e : K = hq.WK x y) (h5 : y.n <= 500) : Side x (zI ha.kb hz.AB K y) [] (200 * 0) := by
 subst e
 refine ⟨?_, ?_, (fun _ hx => by cases hx), Nat.le_refl _, rfl, h.kn, h5⟩
 ·have := hz.SemH.zero.AB (fun _ hx => by cases hx) (hd.xl_byt (ha.kb (hq.WK x y)) 54)
  show hz.SemH _ (hd.xl (ha.kb (hq.WK x y)) 54 ++ [])
  rw [List.append_nil]
  exact this
 ·show IntKind.i64.wrap (intAt hz.l0 70 + ((64 : Nat) : Int)) = ((hd.xl (ha.kb (hq.WK x y)) 54 ++ []).length : Int)
  rw [List.append_nil, hd.xl_len]
  rfl
def PREE (x : Acts) (y1 y2 : hq.KY) (n c : Nat) (KF : hd.KT') (Aw : hd.AT) : Prop := (((((((((((((True /\ decide (nI y1.n > 500) = false) /\ decide (nI y2.n > 500) = false) /\ decide (nI n > 20) = false) /\ decide (0 + y1.n <= 0) = true) /\ ((y1.n = 0 ∨ 0 + y1.n <= (x.D y1.Q).length) /\ 0 + 0 + y1.n <= ([] : List Int).length)) /\ decide (0 + y2.n <= 0) = true) /\ ((y2.n = 0 ∨ 0 + y2.n <= (x.D y2.Q).length) /\ 0 + 0 + y2.n <= ([] : List Int).length)) /\ askKE KF (KE x y1) y1.n) /\ hd.w36 Aw hz.l0 (hd.xl (KF (KE x y1)) 54) 64 64) /\ askKE KF (KE x y2) y2.n) /\ hd.w36 Aw hz.l0 (hd.xl (KF (KE x y2)) 54) 64 64) /\ decide ((0 : Int) < nI (0 + y1.n)) = false) /\ decide ((0 : Int) < nI (0 + y2.n)) = false)
theorem prOkEE {x : Acts} {y1 y2 : hq.KY} {n c : Nat} (hn : n <= 20) (hy1 : KeyOk x y1) (hy2 : KeyOk x y2) (h51 : y1.n <= 500) (h52 : y2.n <= 500) (zy1 : y1.n = 0) (zy2 : y2.n = 0) : PREE x y1 y2 n c ha.kb hz.AB :=
 (by refine ⟨⟨⟨⟨⟨⟨⟨⟨⟨⟨⟨⟨⟨trivial, ?_⟩, ?_⟩, ?_⟩, ?_⟩, ⟨mem_of hy1, ?_⟩⟩, ?_⟩, ⟨mem_of hy2, ?_⟩⟩, (aKE hy1 zy1)⟩, (w36_ok _)⟩, (aKE hy2 zy2)⟩, (w36_ok _)⟩, ?_⟩, ?_⟩ <;> first | omega | simp [nI, mostBytes] <;> omega)
def qEEE (x : Acts) (y1 y2 : hq.KY) (n c : Nat) (KF : hd.KT') (Aw : hd.AT) : St := sE (tEEE n c (zI KF Aw (KE x y1) y1) (zI KF Aw (KE x y2) y2)) (gEEE x n (zI KF Aw (KE x y1) y1) (zI KF Aw (KE x y2) y2))
def KQEE (x : Acts) (y1 y2 : hq.KY) (n c : Nat) (KF : hd.KT') (Aw : hd.AT) (TT : hq.TTf) (TG : hq.TGf) (A B : Sd) (v : VF) (e : Exit) (X : St) : Given := KXEE x KF Aw TT TG (sN x n c A B v) (sN x n c A B v) e X
theorem KQEE_ok (x : Acts) (y1 y2 : hq.KY) (n c : Nat) (KF : hd.KT') (Aw : hd.AT) (TT : hq.TTf) (TG : hq.TGf) (A B : Sd) (v : VF) (e : Exit) (X : St) : GivenOk Try.prog (KQEE x y1 y2 n c KF Aw TT TG A B v e X) := KXEE_ok ..
def LEEEE (x : Acts) (y1 y2 : hq.KY) (n c k : Nat) (A B : Sd) (v : VF) (KF : hd.KT') (Aw : hd.AT) (TT : hq.TTf) (TG : hq.TGf) : Prop := ((E20 ((E20 (((((PREE x y1 y2 n c KF Aw) /\ (∀ rd, CodeOk Try.prog rd (.loop lb) (qEEE x y1 y2 n c KF Aw) (.exit 4) (st HEE x n c k A B v))) /\ askTT TT A) /\ askTT TT B) /\ askT0 TG x A) (TT (rowV .u8 64 (hx.ch A.w)) (hz.cH A.h A.z)) (TG (hq.WK x A.y) [])) /\ askT0 TG x B) (TT (rowV .u8 64 (hx.ch B.w)) (hz.cH B.h B.z)) (TG (hq.WK x B.y) [])) /\ True)
theorem lawEEEE (x : Acts) (y1 y2 : hq.KY) (n c k : Nat) (A B : Sd) (v : VF) (KF : hd.KT') (Aw : hd.AT) (TT : hq.TTf) (TG : hq.TGf) : call3 x y1 y2 (KQEE x y1 y2 n c KF Aw TT TG A B v (.exit 4) (st HEE x n c k A B v)) n c (none :: none :: F :: no 3 (F :: no 6 (F :: T :: T :: no 8 (F :: no 3 (F :: no 24 (ty 20 (no 10 (ty 20 [])))))))) = some (.bool true, LEEEE x y1 y2 n c k A B v KF Aw TT TG) := by kernel_rfl
theorem okEEEE {x : Acts} {y1 y2 : hq.KY} {n c : Nat} {A B : Sd} {M N : List Int} {v : VF} (hn : n <= 20) (hy1 : KeyOk x y1) (hy2 : KeyOk x y2) (h51 : y1.n <= 500) (h52 : y2.n <= 500) (zy1 : y1.n = 0) (zy2 : y2.n = 0) (hA : Side x A [] (200 * n)) (hB : Side x B [] (200 * n)) (hl : ∀ rd, CodeOk Try.prog rd (.loop lb) (qEEE x y1 y2 n c ha.kb hz.AB) (.exit 4) (st HEE x n c n A B v)) : LEEEE x y1 y2 n c n A B v ha.kb hz.AB hq.TT0 hq.tgN :=
 ⟨(e20 ⟨(e20 ⟨⟨⟨⟨(prOkEE hn hy1 hy2 h51 h52 zy1 zy2), hl⟩, (aTT hA (by omega))⟩, (aTT hB (by omega))⟩, (aT0 hA)⟩ (tag_nil hA (by omega))), (aT0 hB)⟩ (tag_nil hB (by omega))), trivial⟩
def LEERE (x : Acts) (y1 y2 : hq.KY) (n c k : Nat) (A B : Sd) (v : VF) (KF : hd.KT') (Aw : hd.AT) (TT : hq.TTf) (TG : hq.TGf) : Prop := ((E20 ((E20 (((((PREE x y1 y2 n c KF Aw) /\ (∀ rd, CodeOk Try.prog rd (.loop lb) (qEEE x y1 y2 n c KF Aw) (.exit 4) (st HRE x n c k A B v))) /\ askTT TT A) /\ askTT TT B) /\ askT1 TG x A (m1 A) A.a) (TT (rowV .u8 64 (hx.ch A.w)) (hz.cH A.h A.z)) (TG (hq.WK x A.y) (m1 A))) /\ askT0 TG x B) (TT (rowV .u8 64 (hx.ch B.w)) (hz.cH B.h B.z)) (TG (hq.WK x B.y) [])) /\ True)
theorem lawEERE (x : Acts) (y1 y2 : hq.KY) (n c k : Nat) (A B : Sd) (v : VF) (KF : hd.KT') (Aw : hd.AT) (TT : hq.TTf) (TG : hq.TGf) : call3 x y1 y2 (KQEE x y1 y2 n c KF Aw TT TG A B v (.exit 4) (st HRE x n c k A B v)) n c (none :: none :: F :: no 3 (F :: no 6 (F :: T :: T :: no 8 (F :: no 3 (F :: no 24 (ty 20 (no 10 (ty 20 [])))))))) = some (.bool true, LEERE x y1 y2 n c k A B v KF Aw TT TG) := by kernel_rfl
theorem okEERE {x : Acts} {y1 y2 : hq.KY} {n c : Nat} {A B : Sd} {M N : List Int} {v : VF} (hn : n <= 20) (hy1 : KeyOk x y1) (hy2 : KeyOk x y2) (h51 : y1.n <= 500) (h52 : y2.n <= 500) (zy1 : y1.n = 0) (zy2 : y2.n = 0) (hA : Side x A M (200 * n)) (hB : Side x B [] (200 * n)) (fA : Full A M) (hl : ∀ rd, CodeOk Try.prog rd (.loop lb) (qEEE x y1 y2 n c ha.kb hz.AB) (.exit 4) (st HRE x n c n A B v)) : LEERE x y1 y2 n c n A B v ha.kb hz.AB hq.TT0 hq.tgN :=
 ⟨(e20 ⟨(e20 ⟨⟨⟨⟨(prOkEE hn hy1 hy2 h51 h52 zy1 zy2), hl⟩, (aTT hA (by omega))⟩, (aTT hB (by omega))⟩, (aT1 hA fA (by have := hA.len; omega))⟩ (tag_of hA (by omega) fA.m1)), (aT0 hB)⟩ (tag_nil hB (by omega))), trivial⟩
def LEEER (x : Acts) (y1 y2 : hq.KY) (n c k : Nat) (A B : Sd) (v : VF) (KF : hd.KT') (Aw : hd.AT) (TT : hq.TTf) (TG : hq.TGf) : Prop := ((E20 ((E20 (((((PREE x y1 y2 n c KF Aw) /\ (∀ rd, CodeOk Try.prog rd (.loop lb) (qEEE x y1 y2 n c KF Aw) (.exit 4) (st HER x n c k A B v))) /\ askTT TT A) /\ askTT TT B) /\ askT0 TG x A) (TT (rowV .u8 64 (hx.ch A.w)) (hz.cH A.h A.z)) (TG (hq.WK x A.y) [])) /\ askT1 TG x B (m1 B) B.a) (TT (rowV .u8 64 (hx.ch B.w)) (hz.cH B.h B.z)) (TG (hq.WK x B.y) (m1 B))) /\ True)
theorem lawEEER (x : Acts) (y1 y2 : hq.KY) (n c k : Nat) (A B : Sd) (v : VF) (KF : hd.KT') (Aw : hd.AT) (TT : hq.TTf) (TG : hq.TGf) : call3 x y1 y2 (KQEE x y1 y2 n c KF Aw TT TG A B v (.exit 4) (st HER x n c k A B v)) n c (none :: none :: F :: no 3 (F :: no 6 (F :: T :: T :: no 8 (F :: no 3 (F :: no 24 (ty 20 (no 10 (ty 20 [])))))))) = some (.bool true, LEEER x y1 y2 n c k A B v KF Aw TT TG) := by kernel_rfl
theorem okEEER {x : Acts} {y1 y2 : hq.KY} {n c : Nat} {A B : Sd} {M N : List Int} {v : VF} (hn : n <= 20) (hy1 : KeyOk x y1) (hy2 : KeyOk x y2) (h51 : y1.n <= 500) (h52 : y2.n <= 500) (zy1 : y1.n = 0) (zy2 : y2.n = 0) (hA : Side x A [] (200 * n)) (hB : Side x B N (200 * n)) (fB : Full B N) (hl : ∀ rd, CodeOk Try.prog rd (.loop lb) (qEEE x y1 y2 n c ha.kb hz.AB) (.exit 4) (st HER x n c n A B v)) : LEEER x y1 y2 n c n A B v ha.kb hz.AB hq.TT0 hq.tgN :=
 ⟨(e20 ⟨(e20 ⟨⟨⟨⟨(prOkEE hn hy1 hy2 h51 h52 zy1 zy2), hl⟩, (aTT hA (by omega))⟩, (aTT hB (by omega))⟩, (aT0 hA)⟩ (tag_nil hA (by omega))), (aT1 hB fB (by have := hB.len; omega))⟩ (tag_of hB (by omega) fB.m1)), trivial⟩
def LEERR (x : Acts) (y1 y2 : hq.KY) (n c k : Nat) (A B : Sd) (v : VF) (KF : hd.KT') (Aw : hd.AT) (TT : hq.TTf) (TG : hq.TGf) : Prop := ((E20 ((E20 (((((PREE x y1 y2 n c KF Aw) /\ (∀ rd, CodeOk Try.prog rd (.loop lb) (qEEE x y1 y2 n c KF Aw) (.exit 4) (st HRR x n c k A B v))) /\ askTT TT A) /\ askTT TT B) /\ askT1 TG x A (m1 A) A.a) (TT (rowV .u8 64 (hx.ch A.w)) (hz.cH A.h A.z)) (TG (hq.WK x A.y) (m1 A))) /\ askT1 TG x B (m1 B) B.a) (TT (rowV .u8 64 (hx.ch B.w)) (hz.cH B.h B.z)) (TG (hq.WK x B.y) (m1 B))) /\ True)
theorem lawEERR (x : Acts) (y1 y2 : hq.KY) (n c k : Nat) (A B : Sd) (v : VF) (KF : hd.KT') (Aw : hd.AT) (TT : hq.TTf) (TG : hq.TGf) : call3 x y1 y2 (KQEE x y1 y2 n c KF Aw TT TG A B v (.exit 4) (st HRR x n c k A B v)) n c (none :: none :: F :: no 3 (F :: no 6 (F :: T :: T :: no 8 (F :: no 3 (F :: no 24 (ty 20 (no 10 (ty 20 [])))))))) = some (.bool true, LEERR x y1 y2 n c k A B v KF Aw TT TG) := by kernel_rfl
theorem okEERR {x : Acts} {y1 y2 : hq.KY} {n c : Nat} {A B : Sd} {M N : List Int} {v : VF} (hn : n <= 20) (hy1 : KeyOk x y1) (hy2 : KeyOk x y2) (h51 : y1.n <= 500) (h52 : y2.n <= 500) (zy1 : y1.n = 0) (zy2 : y2.n = 0) (hA : Side x A M (200 * n)) (hB : Side x B N (200 * n)) (fA : Full A M) (fB : Full B N) (hl : ∀ rd, CodeOk Try.prog rd (.loop lb) (qEEE x y1 y2 n c ha.kb hz.AB) (.exit 4) (st HRR x n c n A B v)) : LEERR x y1 y2 n c n A B v ha.kb hz.AB hq.TT0 hq.tgN :=
 ⟨(e20 ⟨(e20 ⟨⟨⟨⟨(prOkEE hn hy1 hy2 h51 h52 zy1 zy2), hl⟩, (aTT hA (by omega))⟩, (aTT hB (by omega))⟩, (aT1 hA fA (by have := hA.len; omega))⟩ (tag_of hA (by omega) fA.m1)), (aT1 hB fB (by have := hB.len; omega))⟩ (tag_of hB (by omega) fB.m1)), trivial⟩
def LEESS (x : Acts) (y1 y2 : hq.KY) (n c k : Nat) (A B : Sd) (v : VF) (KF : hd.KT') (Aw : hd.AT) (TT : hq.TTf) (TG : hq.TGf) : Prop := ((E20 ((E20 (((((PREE x y1 y2 n c KF Aw) /\ (∀ rd, CodeOk Try.prog rd (.loop lb) (qEEE x y1 y2 n c KF Aw) (.exit 4) (st HSS x n c k A B v))) /\ askTT TT A) /\ askTT TT B) /\ askT1 TG x A (m1 A) A.a) (TT (rowV .u8 64 (hx.ch A.w)) (hz.cH A.h A.z)) (TG (hq.WK x A.y) (m1 A))) /\ askT1 TG x B (m1 A) A.a) (TT (rowV .u8 64 (hx.ch B.w)) (hz.cH B.h B.z)) (TG (hq.WK x B.y) (m1 A))) /\ True)
theorem lawEESS (x : Acts) (y1 y2 : hq.KY) (n c k : Nat) (A B : Sd) (v : VF) (KF : hd.KT') (Aw : hd.AT) (TT : hq.TTf) (TG : hq.TGf) : call3 x y1 y2 (KQEE x y1 y2 n c KF Aw TT TG A B v (.exit 4) (st HSS x n c k A B v)) n c (none :: none :: F :: no 3 (F :: no 6 (F :: T :: T :: no 8 (F :: no 3 (F :: no 24 (ty 20 (no 10 (ty 20 [])))))))) = some (.bool true, LEESS x y1 y2 n c k A B v KF Aw TT TG) := by kernel_rfl
theorem okEESS {x : Acts} {y1 y2 : hq.KY} {n c : Nat} {A B : Sd} {M N : List Int} {v : VF} (hn : n <= 20) (hy1 : KeyOk x y1) (hy2 : KeyOk x y2) (h51 : y1.n <= 500) (h52 : y2.n <= 500) (zy1 : y1.n = 0) (zy2 : y2.n = 0) (hA : Side x A M (200 * n)) (hB : Side x B M (200 * n)) (fA : Full A M) (hl : ∀ rd, CodeOk Try.prog rd (.loop lb) (qEEE x y1 y2 n c ha.kb hz.AB) (.exit 4) (st HSS x n c n A B v)) : LEESS x y1 y2 n c n A B v ha.kb hz.AB hq.TT0 hq.tgN :=
 ⟨(e20 ⟨(e20 ⟨⟨⟨⟨(prOkEE hn hy1 hy2 h51 h52 zy1 zy2), hl⟩, (aTT hA (by omega))⟩, (aTT hB (by omega))⟩, (aT1 hA fA (by have := hA.len; omega))⟩ (tag_of hA (by omega) fA.m1)), (aT1 hB fA (by have := hA.len; omega))⟩ (tag_of hB (by omega) fA.m1)), trivial⟩
def LYEE (x : Acts) (y1 y2 : hq.KY) (n c k : Nat) (A B : Sd) (v : VF) (KF : hd.KT') (Aw : hd.AT) (TT : hq.TTf) (TG : hq.TGf) : Prop := ((PREE x y1 y2 n c KF Aw) /\ (∀ rd, CodeOk Try.prog rd (.loop lb) (qEEE x y1 y2 n c KF Aw) .ret (sY x n v)))
theorem lawYEE (x : Acts) (y1 y2 : hq.KY) (n c k : Nat) (A B : Sd) (v : VF) (KF : hd.KT') (Aw : hd.AT) (TT : hq.TTf) (TG : hq.TGf) : call3 x y1 y2 (KQEE x y1 y2 n c KF Aw TT TG A B v .ret (sY x n v)) n c (none :: none :: F :: no 3 (F :: no 6 (F :: T :: T :: no 8 (F :: no 3 (F :: []))))) = some (.bool true, LYEE x y1 y2 n c k A B v KF Aw TT TG) := by kernel_rfl
theorem okYEE {x : Acts} {y1 y2 : hq.KY} {n c : Nat} {A B : Sd} {v : VF} (hn : n <= 20) (hy1 : KeyOk x y1) (hy2 : KeyOk x y2) (h51 : y1.n <= 500) (h52 : y2.n <= 500) (zy1 : y1.n = 0) (zy2 : y2.n = 0) (hl : ∀ rd, CodeOk Try.prog rd (.loop lb) (qEEE x y1 y2 n c ha.kb hz.AB) .ret (sY x n v)) : LYEE x y1 y2 n c n A B v ha.kb hz.AB hq.TT0 hq.tgN :=
 ⟨(prOkEE hn hy1 hy2 h51 h52 zy1 zy2), hl⟩
def PRER (x : Acts) (y1 y2 : hq.KY) (n c : Nat) (KF : hd.KT') (Aw : hd.AT) : Prop := (((((((((((((True /\ decide (nI y1.n > 500) = false) /\ decide (nI y2.n > 500) = false) /\ decide (nI n > 20) = false) /\ decide (0 + y1.n <= 0) = true) /\ ((y1.n = 0 ∨ 0 + y1.n <= (x.D y1.Q).length) /\ 0 + 0 + y1.n <= ([] : List Int).length)) /\ decide (0 + y2.n <= 0) = false) /\ ((y2.n = 0 ∨ 0 + y2.n <= (x.D y2.Q).length) /\ 0 + 0 <= ([] : List Int).length /\ (0 + y2.n) * 1 <= mostBytes /\ 0 + y2.n <= mostBytes)) /\ askKE KF (KE x y1) y1.n) /\ hd.w36 Aw hz.l0 (hd.xl (KF (KE x y1)) 54) 64 64) /\ askKR KF (KR x y2) y2.n) /\ hd.w36 Aw hz.l0 (hd.xl (KF (KR x y2)) 54) 64 64) /\ decide ((0 : Int) < nI (0 + y1.n)) = false) /\ (∀ rd, CodeOk Try.prog rd (.loop lk) (sKEER1 x n c (zI KF Aw (KE x y1) y1) (zI KF Aw (KR x y2) y2) (hq.WK x y2) []) (.exit 2) (sKER1 x n c (zI KF Aw (KE x y1) y1) (zI KF Aw (KR x y2) y2) (VK vKER1) (ups (hq.WK x y2) y2.n) [] y2.n)))
theorem prOkER {x : Acts} {y1 y2 : hq.KY} {n c : Nat} (hn : n <= 20) (hy1 : KeyOk x y1) (hy2 : KeyOk x y2) (h51 : y1.n <= 500) (h52 : y2.n <= 500) (zy1 : y1.n = 0) (zy2 : y2.n ≠ 0) : PRER x y1 y2 n c ha.kb hz.AB :=
 (by refine ⟨⟨⟨⟨⟨⟨⟨⟨⟨⟨⟨⟨⟨trivial, ?_⟩, ?_⟩, ?_⟩, ?_⟩, ⟨mem_of hy1, ?_⟩⟩, ?_⟩, ⟨mem_of hy2, ?_⟩⟩, (aKE hy1 zy1)⟩, (w36_ok _)⟩, (aKR' hy2 h52)⟩, (w36_ok _)⟩, ?_⟩, (fun rd => loopKER1 x n c _ _ _ _ y2.n rfl (by omega) (by omega) hy2.kn.symm rd)⟩ <;> first | omega | simp [nI, mostBytes] <;> omega)
def qEER (x : Acts) (y1 y2 : hq.KY) (n c : Nat) (KF : hd.KT') (Aw : hd.AT) : St := sE (tEER n c (zI KF Aw (KE x y1) y1) (zI KF Aw (KR x y2) y2)) (gEER x n (zI KF Aw (KE x y1) y1) (zI KF Aw (KR x y2) y2))
def KQER (x : Acts) (y1 y2 : hq.KY) (n c : Nat) (KF : hd.KT') (Aw : hd.AT) (TT : hq.TTf) (TG : hq.TGf) (A B : Sd) (v : VF) (e : Exit) (X : St) : Given := KXER x KF Aw TT TG (sN x n c A B v) (sKER1 x n c (zI KF Aw (KE x y1) y1) (zI KF Aw (KR x y2) y2) (VK vKER1) (ups (hq.WK x y2) y2.n) [] y2.n) e X
theorem KQER_ok (x : Acts) (y1 y2 : hq.KY) (n c : Nat) (KF : hd.KT') (Aw : hd.AT) (TT : hq.TTf) (TG : hq.TGf) (A B : Sd) (v : VF) (e : Exit) (X : St) : GivenOk Try.prog (KQER x y1 y2 n c KF Aw TT TG A B v e X) := KXER_ok ..
def LEREE (x : Acts) (y1 y2 : hq.KY) (n c k : Nat) (A B : Sd) (v : VF) (KF : hd.KT') (Aw : hd.AT) (TT : hq.TTf) (TG : hq.TGf) : Prop := ((E20 ((E20 (((((PRER x y1 y2 n c KF Aw) /\ (∀ rd, CodeOk Try.prog rd (.loop lb) (qEER x y1 y2 n c KF Aw) (.exit 4) (st HEE x n c k A B v))) /\ askTT TT A) /\ askTT TT B) /\ askT0 TG x A) (TT (rowV .u8 64 (hx.ch A.w)) (hz.cH A.h A.z)) (TG (hq.WK x A.y) [])) /\ askT0 TG x B) (TT (rowV .u8 64 (hx.ch B.w)) (hz.cH B.h B.z)) (TG (hq.WK x B.y) [])) /\ True)
theorem lawEREE (x : Acts) (y1 y2 : hq.KY) (n c k : Nat) (A B : Sd) (v : VF) (KF : hd.KT') (Aw : hd.AT) (TT : hq.TTf) (TG : hq.TGf) : call3 x y1 y2 (KQER x y1 y2 n c KF Aw TT TG A B v (.exit 4) (st HEE x n c k A B v)) n c (none :: none :: F :: no 3 (F :: no 6 (F :: T :: F :: no 8 (F :: no 26 (ty 20 (no 10 (ty 20 []))))))) = some (.bool true, LEREE x y1 y2 n c k A B v KF Aw TT TG) := by kernel_rfl
theorem okEREE {x : Acts} {y1 y2 : hq.KY} {n c : Nat} {A B : Sd} {M N : List Int} {v : VF} (hn : n <= 20) (hy1 : KeyOk x y1) (hy2 : KeyOk x y2) (h51 : y1.n <= 500) (h52 : y2.n <= 500) (zy1 : y1.n = 0) (zy2 : y2.n ≠ 0) (hA : Side x A [] (200 * n)) (hB : Side x B [] (200 * n)) (hl : ∀ rd, CodeOk Try.prog rd (.loop lb) (qEER x y1 y2 n c ha.kb hz.AB) (.exit 4) (st HEE x n c n A B v)) : LEREE x y1 y2 n c n A B v ha.kb hz.AB hq.TT0 hq.tgN :=
 ⟨(e20 ⟨(e20 ⟨⟨⟨⟨(prOkER hn hy1 hy2 h51 h52 zy1 zy2), hl⟩, (aTT hA (by omega))⟩, (aTT hB (by omega))⟩, (aT0 hA)⟩ (tag_nil hA (by omega))), (aT0 hB)⟩ (tag_nil hB (by omega))), trivial⟩
def LERRE (x : Acts) (y1 y2 : hq.KY) (n c k : Nat) (A B : Sd) (v : VF) (KF : hd.KT') (Aw : hd.AT) (TT : hq.TTf) (TG : hq.TGf) : Prop := ((E20 ((E20 (((((PRER x y1 y2 n c KF Aw) /\ (∀ rd, CodeOk Try.prog rd (.loop lb) (qEER x y1 y2 n c KF Aw) (.exit 4) (st HRE x n c k A B v))) /\ askTT TT A) /\ askTT TT B) /\ askT1 TG x A (m1 A) A.a) (TT (rowV .u8 64 (hx.ch A.w)) (hz.cH A.h A.z)) (TG (hq.WK x A.y) (m1 A))) /\ askT0 TG x B) (TT (rowV .u8 64 (hx.ch B.w)) (hz.cH B.h B.z)) (TG (hq.WK x B.y) [])) /\ True)
theorem lawERRE (x : Acts) (y1 y2 : hq.KY) (n c k : Nat) (A B : Sd) (v : VF) (KF : hd.KT') (Aw : hd.AT) (TT : hq.TTf) (TG : hq.TGf) : call3 x y1 y2 (KQER x y1 y2 n c KF Aw TT TG A B v (.exit 4) (st HRE x n c k A B v)) n c (none :: none :: F :: no 3 (F :: no 6 (F :: T :: F :: no 8 (F :: no 26 (ty 20 (no 10 (ty 20 []))))))) = some (.bool true, LERRE x y1 y2 n c k A B v KF Aw TT TG) := by kernel_rfl
theorem okERRE {x : Acts} {y1 y2 : hq.KY} {n c : Nat} {A B : Sd} {M N : List Int} {v : VF} (hn : n <= 20) (hy1 : KeyOk x y1) (hy2 : KeyOk x y2) (h51 : y1.n <= 500) (h52 : y2.n <= 500) (zy1 : y1.n = 0) (zy2 : y2.n ≠ 0) (hA : Side x A M (200 * n)) (hB : Side x B [] (200 * n)) (fA : Full A M) (hl : ∀ rd, CodeOk Try.prog rd (.loop lb) (qEER x y1 y2 n c ha.kb hz.AB) (.exit 4) (st HRE x n c n A B v)) : LERRE x y1 y2 n c n A B v ha.kb hz.AB hq.TT0 hq.tgN :=
 ⟨(e20 ⟨(e20 ⟨⟨⟨⟨(prOkER hn hy1 hy2 h51 h52 zy1 zy2), hl⟩, (aTT hA (by omega))⟩, (aTT hB (by omega))⟩, (aT1 hA fA (by have := hA.len; omega))⟩ (tag_of hA (by omega) fA.m1)), (aT0 hB)⟩ (tag_nil hB (by omega))), trivial⟩
def LERER (x : Acts) (y1 y2 : hq.KY) (n c k : Nat) (A B : Sd) (v : VF) (KF : hd.KT') (Aw : hd.AT) (TT : hq.TTf) (TG : hq.TGf) : Prop := ((E20 ((E20 (((((PRER x y1 y2 n c KF Aw) /\ (∀ rd, CodeOk Try.prog rd (.loop lb) (qEER x y1 y2 n c KF Aw) (.exit 4) (st HER x n c k A B v))) /\ askTT TT A) /\ askTT TT B) /\ askT0 TG x A) (TT (rowV .u8 64 (hx.ch A.w)) (hz.cH A.h A.z)) (TG (hq.WK x A.y) [])) /\ askT1 TG x B (m1 B) B.a) (TT (rowV .u8 64 (hx.ch B.w)) (hz.cH B.h B.z)) (TG (hq.WK x B.y) (m1 B))) /\ True)
theorem lawERER (x : Acts) (y1 y2 : hq.KY) (n c k : Nat) (A B : Sd) (v : VF) (KF : hd.KT') (Aw : hd.AT) (TT : hq.TTf) (TG : hq.TGf) : call3 x y1 y2 (KQER x y1 y2 n c KF Aw TT TG A B v (.exit 4) (st HER x n c k A B v)) n c (none :: none :: F :: no 3 (F :: no 6 (F :: T :: F :: no 8 (F :: no 26 (ty 20 (no 10 (ty 20 []))))))) = some (.bool true, LERER x y1 y2 n c k A B v KF Aw TT TG) := by kernel_rfl
theorem okERER {x : Acts} {y1 y2 : hq.KY} {n c : Nat} {A B : Sd} {M N : List Int} {v : VF} (hn : n <= 20) (hy1 : KeyOk x y1) (hy2 : KeyOk x y2) (h51 : y1.n <= 500) (h52 : y2.n <= 500) (zy1 : y1.n = 0) (zy2 : y2.n ≠ 0) (hA : Side x A [] (200 * n)) (hB : Side x B N (200 * n)) (fB : Full B N) (hl : ∀ rd, CodeOk Try.prog rd (.loop lb) (qEER x y1 y2 n c ha.kb hz.AB) (.exit 4) (st HER x n c n A B v)) : LERER x y1 y2 n c n A B v ha.kb hz.AB hq.TT0 hq.tgN :=
 ⟨(e20 ⟨(e20 ⟨⟨⟨⟨(prOkER hn hy1 hy2 h51 h52 zy1 zy2), hl⟩, (aTT hA (by omega))⟩, (aTT hB (by omega))⟩, (aT0 hA)⟩ (tag_nil hA (by omega))), (aT1 hB fB (by have := hB.len; omega))⟩ (tag_of hB (by omega) fB.m1)), trivial⟩
def LERRR (x : Acts) (y1 y2 : hq.KY) (n c k : Nat) (A B : Sd) (v : VF) (KF : hd.KT') (Aw : hd.AT) (TT : hq.TTf) (TG : hq.TGf) : Prop := ((E20 ((E20 (((((PRER x y1 y2 n c KF Aw) /\ (∀ rd, CodeOk Try.prog rd (.loop lb) (qEER x y1 y2 n c KF Aw) (.exit 4) (st HRR x n c k A B v))) /\ askTT TT A) /\ askTT TT B) /\ askT1 TG x A (m1 A) A.a) (TT (rowV .u8 64 (hx.ch A.w)) (hz.cH A.h A.z)) (TG (hq.WK x A.y) (m1 A))) /\ askT1 TG x B (m1 B) B.a) (TT (rowV .u8 64 (hx.ch B.w)) (hz.cH B.h B.z)) (TG (hq.WK x B.y) (m1 B))) /\ True)
theorem lawERRR (x : Acts) (y1 y2 : hq.KY) (n c k : Nat) (A B : Sd) (v : VF) (KF : hd.KT') (Aw : hd.AT) (TT : hq.TTf) (TG : hq.TGf) : call3 x y1 y2 (KQER x y1 y2 n c KF Aw TT TG A B v (.exit 4) (st HRR x n c k A B v)) n c (none :: none :: F :: no 3 (F :: no 6 (F :: T :: F :: no 8 (F :: no 26 (ty 20 (no 10 (ty 20 []))))))) = some (.bool true, LERRR x y1 y2 n c k A B v KF Aw TT TG) := by kernel_rfl
theorem okERRR {x : Acts} {y1 y2 : hq.KY} {n c : Nat} {A B : Sd} {M N : List Int} {v : VF} (hn : n <= 20) (hy1 : KeyOk x y1) (hy2 : KeyOk x y2) (h51 : y1.n <= 500) (h52 : y2.n <= 500) (zy1 : y1.n = 0) (zy2 : y2.n ≠ 0) (hA : Side x A M (200 * n)) (hB : Side x B N (200 * n)) (fA : Full A M) (fB : Full B N) (hl : ∀ rd, CodeOk Try.prog rd (.loop lb) (qEER x y1 y2 n c ha.kb hz.AB) (.exit 4) (st HRR x n c n A B v)) : LERRR x y1 y2 n c n A B v ha.kb hz.AB hq.TT0 hq.tgN :=
 ⟨(e20 ⟨(e20 ⟨⟨⟨⟨(prOkER hn hy1 hy2 h51 h52 zy1 zy2), hl⟩, (aTT hA (by omega))⟩, (aTT hB (by omega))⟩, (aT1 hA fA (by have := hA.len; omega))⟩ (tag_of hA (by omega) fA.m1)), (aT1 hB fB (by have := hB.len; omega))⟩ (tag_of hB (by omega) fB.m1)), trivial⟩
def LERSS (x : Acts) (y1 y2 : hq.KY) (n c k : Nat) (A B : Sd) (v : VF) (KF : hd.KT') (Aw : hd.AT) (TT : hq.TTf) (TG : hq.TGf) : Prop := ((E20 ((E20 (((((PRER x y1 y2 n c KF Aw) /\ (∀ rd, CodeOk Try.prog rd (.loop lb) (qEER x y1 y2 n c KF Aw) (.exit 4) (st HSS x n c k A B v))) /\ askTT TT A) /\ askTT TT B) /\ askT1 TG x A (m1 A) A.a) (TT (rowV .u8 64 (hx.ch A.w)) (hz.cH A.h A.z)) (TG (hq.WK x A.y) (m1 A))) /\ askT1 TG x B (m1 A) A.a) (TT (rowV .u8 64 (hx.ch B.w)) (hz.cH B.h B.z)) (TG (hq.WK x B.y) (m1 A))) /\ True)
theorem lawERSS (x : Acts) (y1 y2 : hq.KY) (n c k : Nat) (A B : Sd) (v : VF) (KF : hd.KT') (Aw : hd.AT) (TT : hq.TTf) (TG : hq.TGf) : call3 x y1 y2 (KQER x y1 y2 n c KF Aw TT TG A B v (.exit 4) (st HSS x n c k A B v)) n c (none :: none :: F :: no 3 (F :: no 6 (F :: T :: F :: no 8 (F :: no 26 (ty 20 (no 10 (ty 20 []))))))) = some (.bool true, LERSS x y1 y2 n c k A B v KF Aw TT TG) := by kernel_rfl
theorem okERSS {x : Acts} {y1 y2 : hq.KY} {n c : Nat} {A B : Sd} {M N : List Int} {v : VF} (hn : n <= 20) (hy1 : KeyOk x y1) (hy2 : KeyOk x y2) (h51 : y1.n <= 500) (h52 : y2.n <= 500) (zy1 : y1.n = 0) (zy2 : y2.n ≠ 0) (hA : Side x A M (200 * n)) (hB : Side x B M (200 * n)) (fA : Full A M) (hl : ∀ rd, CodeOk Try.prog rd (.loop lb) (qEER x y1 y2 n c ha.kb hz.AB) (.exit 4) (st HSS x n c n A B v)) : LERSS x y1 y2 n c n A B v ha.kb hz.AB hq.TT0 hq.tgN :=
 ⟨(e20 ⟨(e20 ⟨⟨⟨⟨(prOkER hn hy1 hy2 h51 h52 zy1 zy2), hl⟩, (aTT hA (by omega))⟩, (aTT hB (by omega))⟩, (aT1 hA fA (by have := hA.len; omega))⟩ (tag_of hA (by omega) fA.m1)), (aT1 hB fA (by have := hA.len; omega))⟩ (tag_of hB (by omega) fA.m1)), trivial⟩
def LYER (x : Acts) (y1 y2 : hq.KY) (n c k : Nat) (A B : Sd) (v : VF) (KF : hd.KT') (Aw : hd.AT) (TT : hq.TTf) (TG : hq.TGf) : Prop := ((PRER x y1 y2 n c KF Aw) /\ (∀ rd, CodeOk Try.prog rd (.loop lb) (qEER x y1 y2 n c KF Aw) .ret (sY x n v)))
theorem lawYER (x : Acts) (y1 y2 : hq.KY) (n c k : Nat) (A B : Sd) (v : VF) (KF : hd.KT') (Aw : hd.AT) (TT : hq.TTf) (TG : hq.TGf) : call3 x y1 y2 (KQER x y1 y2 n c KF Aw TT TG A B v .ret (sY x n v)) n c (none :: none :: F :: no 3 (F :: no 6 (F :: T :: F :: no 8 (F :: [])))) = some (.bool true, LYER x y1 y2 n c k A B v KF Aw TT TG) := by kernel_rfl
theorem okYER {x : Acts} {y1 y2 : hq.KY} {n c : Nat} {A B : Sd} {v : VF} (hn : n <= 20) (hy1 : KeyOk x y1) (hy2 : KeyOk x y2) (h51 : y1.n <= 500) (h52 : y2.n <= 500) (zy1 : y1.n = 0) (zy2 : y2.n ≠ 0) (hl : ∀ rd, CodeOk Try.prog rd (.loop lb) (qEER x y1 y2 n c ha.kb hz.AB) .ret (sY x n v)) : LYER x y1 y2 n c n A B v ha.kb hz.AB hq.TT0 hq.tgN :=
 ⟨(prOkER hn hy1 hy2 h51 h52 zy1 zy2), hl⟩
def PRRE (x : Acts) (y1 y2 : hq.KY) (n c : Nat) (KF : hd.KT') (Aw : hd.AT) : Prop := (((((((((((((True /\ decide (nI y1.n > 500) = false) /\ decide (nI y2.n > 500) = false) /\ decide (nI n > 20) = false) /\ decide (0 + y1.n <= 0) = false) /\ ((y1.n = 0 ∨ 0 + y1.n <= (x.D y1.Q).length) /\ 0 + 0 <= ([] : List Int).length /\ (0 + y1.n) * 1 <= mostBytes /\ 0 + y1.n <= mostBytes)) /\ decide (0 + y2.n <= 0) = true) /\ ((y2.n = 0 ∨ 0 + y2.n <= (x.D y2.Q).length) /\ 0 + 0 + y2.n <= ([] : List Int).length)) /\ askKR KF (KR x y1) y1.n) /\ hd.w36 Aw hz.l0 (hd.xl (KF (KR x y1)) 54) 64 64) /\ askKE KF (KE x y2) y2.n) /\ hd.w36 Aw hz.l0 (hd.xl (KF (KE x y2)) 54) 64 64) /\ (∀ rd, CodeOk Try.prog rd (.loop lk) (sKERE0 x n c (zI KF Aw (KR x y1) y1) (zI KF Aw (KE x y2) y2) (hq.WK x y1) []) (.exit 2) (sKRE0 x n c (zI KF Aw (KR x y1) y1) (zI KF Aw (KE x y2) y2) (VK vKRE0) (ups (hq.WK x y1) y1.n) [] y1.n))) /\ decide ((0 : Int) < nI (0 + y2.n)) = false)
theorem prOkRE {x : Acts} {y1 y2 : hq.KY} {n c : Nat} (hn : n <= 20) (hy1 : KeyOk x y1) (hy2 : KeyOk x y2) (h51 : y1.n <= 500) (h52 : y2.n <= 500) (zy1 : y1.n ≠ 0) (zy2 : y2.n = 0) : PRRE x y1 y2 n c ha.kb hz.AB :=
 (by refine ⟨⟨⟨⟨⟨⟨⟨⟨⟨⟨⟨⟨⟨trivial, ?_⟩, ?_⟩, ?_⟩, ?_⟩, ⟨mem_of hy1, ?_⟩⟩, ?_⟩, ⟨mem_of hy2, ?_⟩⟩, (aKR' hy1 h51)⟩, (w36_ok _)⟩, (aKE hy2 zy2)⟩, (w36_ok _)⟩, (fun rd => loopKRE0 x n c _ _ _ _ y1.n rfl (by omega) (by omega) hy1.kn.symm rd)⟩, ?_⟩ <;> first | omega | simp [nI, mostBytes] <;> omega)
def qERE (x : Acts) (y1 y2 : hq.KY) (n c : Nat) (KF : hd.KT') (Aw : hd.AT) : St := sE (tERE n c (zI KF Aw (KR x y1) y1) (zI KF Aw (KE x y2) y2)) (gERE x n (zI KF Aw (KR x y1) y1) (zI KF Aw (KE x y2) y2))
def KQRE (x : Acts) (y1 y2 : hq.KY) (n c : Nat) (KF : hd.KT') (Aw : hd.AT) (TT : hq.TTf) (TG : hq.TGf) (A B : Sd) (v : VF) (e : Exit) (X : St) : Given := KXRE x KF Aw TT TG (sKRE0 x n c (zI KF Aw (KR x y1) y1) (zI KF Aw (KE x y2) y2) (VK vKRE0) (ups (hq.WK x y1) y1.n) [] y1.n) (sN x n c A B v) e X
theorem KQRE_ok (x : Acts) (y1 y2 : hq.KY) (n c : Nat) (KF : hd.KT') (Aw : hd.AT) (TT : hq.TTf) (TG : hq.TGf) (A B : Sd) (v : VF) (e : Exit) (X : St) : GivenOk Try.prog (KQRE x y1 y2 n c KF Aw TT TG A B v e X) := KXRE_ok ..
def LREEE (x : Acts) (y1 y2 : hq.KY) (n c k : Nat) (A B : Sd) (v : VF) (KF : hd.KT') (Aw : hd.AT) (TT : hq.TTf) (TG : hq.TGf) : Prop := ((E20 ((E20 (((((PRRE x y1 y2 n c KF Aw) /\ (∀ rd, CodeOk Try.prog rd (.loop lb) (qERE x y1 y2 n c KF Aw) (.exit 4) (st HEE x n c k A B v))) /\ askTT TT A) /\ askTT TT B) /\ askT0 TG x A) (TT (rowV .u8 64 (hx.ch A.w)) (hz.cH A.h A.z)) (TG (hq.WK x A.y) [])) /\ askT0 TG x B) (TT (rowV .u8 64 (hx.ch B.w)) (hz.cH B.h B.z)) (TG (hq.WK x B.y) [])) /\ True)
theorem lawREEE (x : Acts) (y1 y2 : hq.KY) (n c k : Nat) (A B : Sd) (v : VF) (KF : hd.KT') (Aw : hd.AT) (TT : hq.TTf) (TG : hq.TGf) : call3 x y1 y2 (KQRE x y1 y2 n c KF Aw TT TG A B v (.exit 4) (st HEE x n c k A B v)) n c (none :: none :: F :: no 3 (F :: no 6 (F :: F :: T :: no 10 (F :: no 24 (ty 20 (no 10 (ty 20 []))))))) = some (.bool true, LREEE x y1 y2 n c k A B v KF Aw TT TG) := by kernel_rfl
theorem okREEE {x : Acts} {y1 y2 : hq.KY} {n c : Nat} {A B : Sd} {M N : List Int} {v : VF} (hn : n <= 20) (hy1 : KeyOk x y1) (hy2 : KeyOk x y2) (h51 : y1.n <= 500) (h52 : y2.n <= 500) (zy1 : y1.n ≠ 0) (zy2 : y2.n = 0) (hA : Side x A [] (200 * n)) (hB : Side x B [] (200 * n)) (hl : ∀ rd, CodeOk Try.prog rd (.loop lb) (qERE x y1 y2 n c ha.kb hz.AB) (.exit 4) (st HEE x n c n A B v)) : LREEE x y1 y2 n c n A B v ha.kb hz.AB hq.TT0 hq.tgN :=
 ⟨(e20 ⟨(e20 ⟨⟨⟨⟨(prOkRE hn hy1 hy2 h51 h52 zy1 zy2), hl⟩, (aTT hA (by omega))⟩, (aTT hB (by omega))⟩, (aT0 hA)⟩ (tag_nil hA (by omega))), (aT0 hB)⟩ (tag_nil hB (by omega))), trivial⟩
def LRERE (x : Acts) (y1 y2 : hq.KY) (n c k : Nat) (A B : Sd) (v : VF) (KF : hd.KT') (Aw : hd.AT) (TT : hq.TTf) (TG : hq.TGf) : Prop := ((E20 ((E20 (((((PRRE x y1 y2 n c KF Aw) /\ (∀ rd, CodeOk Try.prog rd (.loop lb) (qERE x y1 y2 n c KF Aw) (.exit 4) (st HRE x n c k A B v))) /\ askTT TT A) /\ askTT TT B) /\ askT1 TG x A (m1 A) A.a) (TT (rowV .u8 64 (hx.ch A.w)) (hz.cH A.h A.z)) (TG (hq.WK x A.y) (m1 A))) /\ askT0 TG x B) (TT (rowV .u8 64 (hx.ch B.w)) (hz.cH B.h B.z)) (TG (hq.WK x B.y) [])) /\ True)
theorem lawRERE (x : Acts) (y1 y2 : hq.KY) (n c k : Nat) (A B : Sd) (v : VF) (KF : hd.KT') (Aw : hd.AT) (TT : hq.TTf) (TG : hq.TGf) : call3 x y1 y2 (KQRE x y1 y2 n c KF Aw TT TG A B v (.exit 4) (st HRE x n c k A B v)) n c (none :: none :: F :: no 3 (F :: no 6 (F :: F :: T :: no 10 (F :: no 24 (ty 20 (no 10 (ty 20 []))))))) = some (.bool true, LRERE x y1 y2 n c k A B v KF Aw TT TG) := by kernel_rfl
theorem okRERE {x : Acts} {y1 y2 : hq.KY} {n c : Nat} {A B : Sd} {M N : List Int} {v : VF} (hn : n <= 20) (hy1 : KeyOk x y1) (hy2 : KeyOk x y2) (h51 : y1.n <= 500) (h52 : y2.n <= 500) (zy1 : y1.n ≠ 0) (zy2 : y2.n = 0) (hA : Side x A M (200 * n)) (hB : Side x B [] (200 * n)) (fA : Full A M) (hl : ∀ rd, CodeOk Try.prog rd (.loop lb) (qERE x y1 y2 n c ha.kb hz.AB) (.exit 4) (st HRE x n c n A B v)) : LRERE x y1 y2 n c n A B v ha.kb hz.AB hq.TT0 hq.tgN :=
 ⟨(e20 ⟨(e20 ⟨⟨⟨⟨(prOkRE hn hy1 hy2 h51 h52 zy1 zy2), hl⟩, (aTT hA (by omega))⟩, (aTT hB (by omega))⟩, (aT1 hA fA (by have := hA.len; omega))⟩ (tag_of hA (by omega) fA.m1)), (aT0 hB)⟩ (tag_nil hB (by omega))), trivial⟩
def LREER (x : Acts) (y1 y2 : hq.KY) (n c k : Nat) (A B : Sd) (v : VF) (KF : hd.KT') (Aw : hd.AT) (TT : hq.TTf) (TG : hq.TGf) : Prop := ((E20 ((E20 (((((PRRE x y1 y2 n c KF Aw) /\ (∀ rd, CodeOk Try.prog rd (.loop lb) (qERE x y1 y2 n c KF Aw) (.exit 4) (st HER x n c k A B v))) /\ askTT TT A) /\ askTT TT B) /\ askT0 TG x A) (TT (rowV .u8 64 (hx.ch A.w)) (hz.cH A.h A.z)) (TG (hq.WK x A.y) [])) /\ askT1 TG x B (m1 B) B.a) (TT (rowV .u8 64 (hx.ch B.w)) (hz.cH B.h B.z)) (TG (hq.WK x B.y) (m1 B))) /\ True)
theorem lawREER (x : Acts) (y1 y2 : hq.KY) (n c k : Nat) (A B : Sd) (v : VF) (KF : hd.KT') (Aw : hd.AT) (TT : hq.TTf) (TG : hq.TGf) : call3 x y1 y2 (KQRE x y1 y2 n c KF Aw TT TG A B v (.exit 4) (st HER x n c k A B v)) n c (none :: none :: F :: no 3 (F :: no 6 (F :: F :: T :: no 10 (F :: no 24 (ty 20 (no 10 (ty 20 []))))))) = some (.bool true, LREER x y1 y2 n c k A B v KF Aw TT TG) := by kernel_rfl
theorem okREER {x : Acts} {y1 y2 : hq.KY} {n c : Nat} {A B : Sd} {M N : List Int} {v : VF} (hn : n <= 20) (hy1 : KeyOk x y1) (hy2 : KeyOk x y2) (h51 : y1.n <= 500) (h52 : y2.n <= 500) (zy1 : y1.n ≠ 0) (zy2 : y2.n = 0) (hA : Side x A [] (200 * n)) (hB : Side x B N (200 * n)) (fB : Full B N) (hl : ∀ rd, CodeOk Try.prog rd (.loop lb) (qERE x y1 y2 n c ha.kb hz.AB) (.exit 4) (st HER x n c n A B v)) : LREER x y1 y2 n c n A B v ha.kb hz.AB hq.TT0 hq.tgN :=
 ⟨(e20 ⟨(e20 ⟨⟨⟨⟨(prOkRE hn hy1 hy2 h51 h52 zy1 zy2), hl⟩, (aTT hA (by omega))⟩, (aTT hB (by omega))⟩, (aT0 hA)⟩ (tag_nil hA (by omega))), (aT1 hB fB (by have := hB.len; omega))⟩ (tag_of hB (by omega) fB.m1)), trivial⟩
def LRERR (x : Acts) (y1 y2 : hq.KY) (n c k : Nat) (A B : Sd) (v : VF) (KF : hd.KT') (Aw : hd.AT) (TT : hq.TTf) (TG : hq.TGf) : Prop := ((E20 ((E20 (((((PRRE x y1 y2 n c KF Aw) /\ (∀ rd, CodeOk Try.prog rd (.loop lb) (qERE x y1 y2 n c KF Aw) (.exit 4) (st HRR x n c k A B v))) /\ askTT TT A) /\ askTT TT B) /\ askT1 TG x A (m1 A) A.a) (TT (rowV .u8 64 (hx.ch A.w)) (hz.cH A.h A.z)) (TG (hq.WK x A.y) (m1 A))) /\ askT1 TG x B (m1 B) B.a) (TT (rowV .u8 64 (hx.ch B.w)) (hz.cH B.h B.z)) (TG (hq.WK x B.y) (m1 B))) /\ True)
theorem lawRERR (x : Acts) (y1 y2 : hq.KY) (n c k : Nat) (A B : Sd) (v : VF) (KF : hd.KT') (Aw : hd.AT) (TT : hq.TTf) (TG : hq.TGf) : call3 x y1 y2 (KQRE x y1 y2 n c KF Aw TT TG A B v (.exit 4) (st HRR x n c k A B v)) n c (none :: none :: F :: no 3 (F :: no 6 (F :: F :: T :: no 10 (F :: no 24 (ty 20 (no 10 (ty 20 []))))))) = some (.bool true, LRERR x y1 y2 n c k A B v KF Aw TT TG) := by kernel_rfl
theorem okRERR {x : Acts} {y1 y2 : hq.KY} {n c : Nat} {A B : Sd} {M N : List Int} {v : VF} (hn : n <= 20) (hy1 : KeyOk x y1) (hy2 : KeyOk x y2) (h51 : y1.n <= 500) (h52 : y2.n <= 500) (zy1 : y1.n ≠ 0) (zy2 : y2.n = 0) (hA : Side x A M (200 * n)) (hB : Side x B N (200 * n)) (fA : Full A M) (fB : Full B N) (hl : ∀ rd, CodeOk Try.prog rd (.loop lb) (qERE x y1 y2 n c ha.kb hz.AB) (.exit 4) (st HRR x n c n A B v)) : LRERR x y1 y2 n c n A B v ha.kb hz.AB hq.TT0 hq.tgN :=
 ⟨(e20 ⟨(e20 ⟨⟨⟨⟨(prOkRE hn hy1 hy2 h51 h52 zy1 zy2), hl⟩, (aTT hA (by omega))⟩, (aTT hB (by omega))⟩, (aT1 hA fA (by have := hA.len; omega))⟩ (tag_of hA (by omega) fA.m1)), (aT1 hB fB (by have := hB.len; omega))⟩ (tag_of hB (by omega) fB.m1)), trivial⟩
def LRESS (x : Acts) (y1 y2 : hq.KY) (n c k : Nat) (A B : Sd) (v : VF) (KF : hd.KT') (Aw : hd.AT) (TT : hq.TTf) (TG : hq.TGf) : Prop := ((E20 ((E20 (((((PRRE x y1 y2 n c KF Aw) /\ (∀ rd, CodeOk Try.prog rd (.loop lb) (qERE x y1 y2 n c KF Aw) (.exit 4) (st HSS x n c k A B v))) /\ askTT TT A) /\ askTT TT B) /\ askT1 TG x A (m1 A) A.a) (TT (rowV .u8 64 (hx.ch A.w)) (hz.cH A.h A.z)) (TG (hq.WK x A.y) (m1 A))) /\ askT1 TG x B (m1 A) A.a) (TT (rowV .u8 64 (hx.ch B.w)) (hz.cH B.h B.z)) (TG (hq.WK x B.y) (m1 A))) /\ True)
theorem lawRESS (x : Acts) (y1 y2 : hq.KY) (n c k : Nat) (A B : Sd) (v : VF) (KF : hd.KT') (Aw : hd.AT) (TT : hq.TTf) (TG : hq.TGf) : call3 x y1 y2 (KQRE x y1 y2 n c KF Aw TT TG A B v (.exit 4) (st HSS x n c k A B v)) n c (none :: none :: F :: no 3 (F :: no 6 (F :: F :: T :: no 10 (F :: no 24 (ty 20 (no 10 (ty 20 []))))))) = some (.bool true, LRESS x y1 y2 n c k A B v KF Aw TT TG) := by kernel_rfl
theorem okRESS {x : Acts} {y1 y2 : hq.KY} {n c : Nat} {A B : Sd} {M N : List Int} {v : VF} (hn : n <= 20) (hy1 : KeyOk x y1) (hy2 : KeyOk x y2) (h51 : y1.n <= 500) (h52 : y2.n <= 500) (zy1 : y1.n ≠ 0) (zy2 : y2.n = 0) (hA : Side x A M (200 * n)) (hB : Side x B M (200 * n)) (fA : Full A M) (hl : ∀ rd, CodeOk Try.prog rd (.loop lb) (qERE x y1 y2 n c ha.kb hz.AB) (.exit 4) (st HSS x n c n A B v)) : LRESS x y1 y2 n c n A B v ha.kb hz.AB hq.TT0 hq.tgN :=
 ⟨(e20 ⟨(e20 ⟨⟨⟨⟨(prOkRE hn hy1 hy2 h51 h52 zy1 zy2), hl⟩, (aTT hA (by omega))⟩, (aTT hB (by omega))⟩, (aT1 hA fA (by have := hA.len; omega))⟩ (tag_of hA (by omega) fA.m1)), (aT1 hB fA (by have := hA.len; omega))⟩ (tag_of hB (by omega) fA.m1)), trivial⟩
def LYRE (x : Acts) (y1 y2 : hq.KY) (n c k : Nat) (A B : Sd) (v : VF) (KF : hd.KT') (Aw : hd.AT) (TT : hq.TTf) (TG : hq.TGf) : Prop := ((PRRE x y1 y2 n c KF Aw) /\ (∀ rd, CodeOk Try.prog rd (.loop lb) (qERE x y1 y2 n c KF Aw) .ret (sY x n v)))
theorem lawYRE (x : Acts) (y1 y2 : hq.KY) (n c k : Nat) (A B : Sd) (v : VF) (KF : hd.KT') (Aw : hd.AT) (TT : hq.TTf) (TG : hq.TGf) : call3 x y1 y2 (KQRE x y1 y2 n c KF Aw TT TG A B v .ret (sY x n v)) n c (none :: none :: F :: no 3 (F :: no 6 (F :: F :: T :: no 10 (F :: [])))) = some (.bool true, LYRE x y1 y2 n c k A B v KF Aw TT TG) := by kernel_rfl
theorem okYRE {x : Acts} {y1 y2 : hq.KY} {n c : Nat} {A B : Sd} {v : VF} (hn : n <= 20) (hy1 : KeyOk x y1) (hy2 : KeyOk x y2) (h51 : y1.n <= 500) (h52 : y2.n <= 500) (zy1 : y1.n ≠ 0) (zy2 : y2.n = 0) (hl : ∀ rd, CodeOk Try.prog rd (.loop lb) (qERE x y1 y2 n c ha.kb hz.AB) .ret (sY x n v)) : LYRE x y1 y2 n c n A B v ha.kb hz.AB hq.TT0 hq.tgN :=
 ⟨(prOkRE hn hy1 hy2 h51 h52 zy1 zy2), hl⟩
def PRRR (x : Acts) (y1 y2 : hq.KY) (n c : Nat) (KF : hd.KT') (Aw : hd.AT) : Prop := (((((((((((((True /\ decide (nI y1.n > 500) = false) /\ decide (nI y2.n > 500) = false) /\ decide (nI n > 20) = false) /\ decide (0 + y1.n <= 0) = false) /\ ((y1.n = 0 ∨ 0 + y1.n <= (x.D y1.Q).length) /\ 0 + 0 <= ([] : List Int).length /\ (0 + y1.n) * 1 <= mostBytes /\ 0 + y1.n <= mostBytes)) /\ decide (0 + y2.n <= 0) = false) /\ ((y2.n = 0 ∨ 0 + y2.n <= (x.D y2.Q).length) /\ 0 + 0 <= ([] : List Int).length /\ (0 + y2.n) * 1 <= mostBytes /\ 0 + y2.n <= mostBytes)) /\ askKR KF (KR x y1) y1.n) /\ hd.w36 Aw hz.l0 (hd.xl (KF (KR x y1)) 54) 64 64) /\ askKR KF (KR x y2) y2.n) /\ hd.w36 Aw hz.l0 (hd.xl (KF (KR x y2)) 54) 64 64) /\ (∀ rd, CodeOk Try.prog rd (.loop lk) (sKERR0 x n c (zI KF Aw (KR x y1) y1) (zI KF Aw (KR x y2) y2) (hq.WK x y1) (hq.WK x y2)) (.exit 2) (sKRR0 x n c (zI KF Aw (KR x y1) y1) (zI KF Aw (KR x y2) y2) (VK vKRR0) (ups (hq.WK x y1) y1.n) (hq.WK x y2) y1.n))) /\ (∀ rd, CodeOk Try.prog rd (.loop lk) (sKERR1 x n c (zI KF Aw (KR x y1) y1) (zI KF Aw (KR x y2) y2) (hq.WK x y2) []) (.exit 2) (sKRR1 x n c (zI KF Aw (KR x y1) y1) (zI KF Aw (KR x y2) y2) (VK vKRR1) (ups (hq.WK x y2) y2.n) [] y2.n)))
theorem prOkRR {x : Acts} {y1 y2 : hq.KY} {n c : Nat} (hn : n <= 20) (hy1 : KeyOk x y1) (hy2 : KeyOk x y2) (h51 : y1.n <= 500) (h52 : y2.n <= 500) (zy1 : y1.n ≠ 0) (zy2 : y2.n ≠ 0) : PRRR x y1 y2 n c ha.kb hz.AB :=
 (by refine ⟨⟨⟨⟨⟨⟨⟨⟨⟨⟨⟨⟨⟨trivial, ?_⟩, ?_⟩, ?_⟩, ?_⟩, ⟨mem_of hy1, ?_⟩⟩, ?_⟩, ⟨mem_of hy2, ?_⟩⟩, (aKR' hy1 h51)⟩, (w36_ok _)⟩, (aKR' hy2 h52)⟩, (w36_ok _)⟩, (fun rd => loopKRR0 x n c _ _ _ _ y1.n rfl (by omega) (by omega) hy1.kn.symm rd)⟩, (fun rd => loopKRR1 x n c _ _ _ _ y2.n rfl (by omega) (by omega) hy2.kn.symm rd)⟩ <;> first | omega | simp [nI, mostBytes] <;> omega)
def qERR (x : Acts) (y1 y2 : hq.KY) (n c : Nat) (KF : hd.KT') (Aw : hd.AT) : St := sE (tERR n c (zI KF Aw (KR x y1) y1) (zI KF Aw (KR x y2) y2)) (gERR x n (zI KF Aw (KR x y1) y1) (zI KF Aw (KR x y2) y2))
def KQRR (x : Acts) (y1 y2 : hq.KY) (n c : Nat) (KF : hd.KT') (Aw : hd.AT) (TT : hq.TTf) (TG : hq.TGf) (A B : Sd) (v : VF) (e : Exit) (X : St) : Given := KXRR x KF Aw TT TG (sKRR0 x n c (zI KF Aw (KR x y1) y1) (zI KF Aw (KR x y2) y2) (VK vKRR0) (ups (hq.WK x y1) y1.n) (hq.WK x y2) y1.n) (sKRR1 x n c (zI KF Aw (KR x y1) y1) (zI KF Aw (KR x y2) y2) (VK vKRR1) (ups (hq.WK x y2) y2.n) [] y2.n) e X
theorem KQRR_ok (x : Acts) (y1 y2 : hq.KY) (n c : Nat) (KF : hd.KT') (Aw : hd.AT) (TT : hq.TTf) (TG : hq.TGf) (A B : Sd) (v : VF) (e : Exit) (X : St) : GivenOk Try.prog (KQRR x y1 y2 n c KF Aw TT TG A B v e X) := KXRR_ok ..
def LRREE (x : Acts) (y1 y2 : hq.KY) (n c k : Nat) (A B : Sd) (v : VF) (KF : hd.KT') (Aw : hd.AT) (TT : hq.TTf) (TG : hq.TGf) : Prop := ((E20 ((E20 (((((PRRR x y1 y2 n c KF Aw) /\ (∀ rd, CodeOk Try.prog rd (.loop lb) (qERR x y1 y2 n c KF Aw) (.exit 4) (st HEE x n c k A B v))) /\ askTT TT A) /\ askTT TT B) /\ askT0 TG x A) (TT (rowV .u8 64 (hx.ch A.w)) (hz.cH A.h A.z)) (TG (hq.WK x A.y) [])) /\ askT0 TG x B) (TT (rowV .u8 64 (hx.ch B.w)) (hz.cH B.h B.z)) (TG (hq.WK x B.y) [])) /\ True)
theorem lawRREE (x : Acts) (y1 y2 : hq.KY) (n c k : Nat) (A B : Sd) (v : VF) (KF : hd.KT') (Aw : hd.AT) (TT : hq.TTf) (TG : hq.TGf) : call3 x y1 y2 (KQRR x y1 y2 n c KF Aw TT TG A B v (.exit 4) (st HEE x n c k A B v)) n c (none :: none :: F :: no 3 (F :: no 6 (F :: F :: F :: no 33 (ty 20 (no 10 (ty 20 [])))))) = some (.bool true, LRREE x y1 y2 n c k A B v KF Aw TT TG) := by kernel_rfl
theorem okRREE {x : Acts} {y1 y2 : hq.KY} {n c : Nat} {A B : Sd} {M N : List Int} {v : VF} (hn : n <= 20) (hy1 : KeyOk x y1) (hy2 : KeyOk x y2) (h51 : y1.n <= 500) (h52 : y2.n <= 500) (zy1 : y1.n ≠ 0) (zy2 : y2.n ≠ 0) (hA : Side x A [] (200 * n)) (hB : Side x B [] (200 * n)) (hl : ∀ rd, CodeOk Try.prog rd (.loop lb) (qERR x y1 y2 n c ha.kb hz.AB) (.exit 4) (st HEE x n c n A B v)) : LRREE x y1 y2 n c n A B v ha.kb hz.AB hq.TT0 hq.tgN :=
 ⟨(e20 ⟨(e20 ⟨⟨⟨⟨(prOkRR hn hy1 hy2 h51 h52 zy1 zy2), hl⟩, (aTT hA (by omega))⟩, (aTT hB (by omega))⟩, (aT0 hA)⟩ (tag_nil hA (by omega))), (aT0 hB)⟩ (tag_nil hB (by omega))), trivial⟩
def LRRRE (x : Acts) (y1 y2 : hq.KY) (n c k : Nat) (A B : Sd) (v : VF) (KF : hd.KT') (Aw : hd.AT) (TT : hq.TTf) (TG : hq.TGf) : Prop := ((E20 ((E20 (((((PRRR x y1 y2 n c KF Aw) /\ (∀ rd, CodeOk Try.prog rd (.loop lb) (qERR x y1 y2 n c KF Aw) (.exit 4) (st HRE x n c k A B v))) /\ askTT TT A) /\ askTT TT B) /\ askT1 TG x A (m1 A) A.a) (TT (rowV .u8 64 (hx.ch A.w)) (hz.cH A.h A.z)) (TG (hq.WK x A.y) (m1 A))) /\ askT0 TG x B) (TT (rowV .u8 64 (hx.ch B.w)) (hz.cH B.h B.z)) (TG (hq.WK x B.y) [])) /\ True)
theorem lawRRRE (x : Acts) (y1 y2 : hq.KY) (n c k : Nat) (A B : Sd) (v : VF) (KF : hd.KT') (Aw : hd.AT) (TT : hq.TTf) (TG : hq.TGf) : call3 x y1 y2 (KQRR x y1 y2 n c KF Aw TT TG A B v (.exit 4) (st HRE x n c k A B v)) n c (none :: none :: F :: no 3 (F :: no 6 (F :: F :: F :: no 33 (ty 20 (no 10 (ty 20 [])))))) = some (.bool true, LRRRE x y1 y2 n c k A B v KF Aw TT TG) := by kernel_rfl
theorem okRRRE {x : Acts} {y1 y2 : hq.KY} {n c : Nat} {A B : Sd} {M N : List Int} {v : VF} (hn : n <= 20) (hy1 : KeyOk x y1) (hy2 : KeyOk x y2) (h51 : y1.n <= 500) (h52 : y2.n <= 500) (zy1 : y1.n ≠ 0) (zy2 : y2.n ≠ 0) (hA : Side x A M (200 * n)) (hB : Side x B [] (200 * n)) (fA : Full A M) (hl : ∀ rd, CodeOk Try.prog rd (.loop lb) (qERR x y1 y2 n c ha.kb hz.AB) (.exit 4) (st HRE x n c n A B v)) : LRRRE x y1 y2 n c n A B v ha.kb hz.AB hq.TT0 hq.tgN :=
 ⟨(e20 ⟨(e20 ⟨⟨⟨⟨(prOkRR hn hy1 hy2 h51 h52 zy1 zy2), hl⟩, (aTT hA (by omega))⟩, (aTT hB (by omega))⟩, (aT1 hA fA (by have := hA.len; omega))⟩ (tag_of hA (by omega) fA.m1)), (aT0 hB)⟩ (tag_nil hB (by omega))), trivial⟩
def LRRER (x : Acts) (y1 y2 : hq.KY) (n c k : Nat) (A B : Sd) (v : VF) (KF : hd.KT') (Aw : hd.AT) (TT : hq.TTf) (TG : hq.TGf) : Prop := ((E20 ((E20 (((((PRRR x y1 y2 n c KF Aw) /\ (∀ rd, CodeOk Try.prog rd (.loop lb) (qERR x y1 y2 n c KF Aw) (.exit 4) (st HER x n c k A B v))) /\ askTT TT A) /\ askTT TT B) /\ askT0 TG x A) (TT (rowV .u8 64 (hx.ch A.w)) (hz.cH A.h A.z)) (TG (hq.WK x A.y) [])) /\ askT1 TG x B (m1 B) B.a) (TT (rowV .u8 64 (hx.ch B.w)) (hz.cH B.h B.z)) (TG (hq.WK x B.y) (m1 B))) /\ True)
theorem lawRRER (x : Acts) (y1 y2 : hq.KY) (n c k : Nat) (A B : Sd) (v : VF) (KF : hd.KT') (Aw : hd.AT) (TT : hq.TTf) (TG : hq.TGf) : call3 x y1 y2 (KQRR x y1 y2 n c KF Aw TT TG A B v (.exit 4) (st HER x n c k A B v)) n c (none :: none :: F :: no 3 (F :: no 6 (F :: F :: F :: no 33 (ty 20 (no 10 (ty 20 [])))))) = some (.bool true, LRRER x y1 y2 n c k A B v KF Aw TT TG) := by kernel_rfl
theorem okRRER {x : Acts} {y1 y2 : hq.KY} {n c : Nat} {A B : Sd} {M N : List Int} {v : VF} (hn : n <= 20) (hy1 : KeyOk x y1) (hy2 : KeyOk x y2) (h51 : y1.n <= 500) (h52 : y2.n <= 500) (zy1 : y1.n ≠ 0) (zy2 : y2.n ≠ 0) (hA : Side x A [] (200 * n)) (hB : Side x B N (200 * n)) (fB : Full B N) (hl : ∀ rd, CodeOk Try.prog rd (.loop lb) (qERR x y1 y2 n c ha.kb hz.AB) (.exit 4) (st HER x n c n A B v)) : LRRER x y1 y2 n c n A B v ha.kb hz.AB hq.TT0 hq.tgN :=
 ⟨(e20 ⟨(e20 ⟨⟨⟨⟨(prOkRR hn hy1 hy2 h51 h52 zy1 zy2), hl⟩, (aTT hA (by omega))⟩, (aTT hB (by omega))⟩, (aT0 hA)⟩ (tag_nil hA (by omega))), (aT1 hB fB (by have := hB.len; omega))⟩ (tag_of hB (by omega) fB.m1)), trivial⟩
def LRRRR (x : Acts) (y1 y2 : hq.KY) (n c k : Nat) (A B : Sd) (v : VF) (KF : hd.KT') (Aw : hd.AT) (TT : hq.TTf) (TG : hq.TGf) : Prop := ((E20 ((E20 (((((PRRR x y1 y2 n c KF Aw) /\ (∀ rd, CodeOk Try.prog rd (.loop lb) (qERR x y1 y2 n c KF Aw) (.exit 4) (st HRR x n c k A B v))) /\ askTT TT A) /\ askTT TT B) /\ askT1 TG x A (m1 A) A.a) (TT (rowV .u8 64 (hx.ch A.w)) (hz.cH A.h A.z)) (TG (hq.WK x A.y) (m1 A))) /\ askT1 TG x B (m1 B) B.a) (TT (rowV .u8 64 (hx.ch B.w)) (hz.cH B.h B.z)) (TG (hq.WK x B.y) (m1 B))) /\ True)
theorem lawRRRR (x : Acts) (y1 y2 : hq.KY) (n c k : Nat) (A B : Sd) (v : VF) (KF : hd.KT') (Aw : hd.AT) (TT : hq.TTf) (TG : hq.TGf) : call3 x y1 y2 (KQRR x y1 y2 n c KF Aw TT TG A B v (.exit 4) (st HRR x n c k A B v)) n c (none :: none :: F :: no 3 (F :: no 6 (F :: F :: F :: no 33 (ty 20 (no 10 (ty 20 [])))))) = some (.bool true, LRRRR x y1 y2 n c k A B v KF Aw TT TG) := by kernel_rfl
theorem okRRRR {x : Acts} {y1 y2 : hq.KY} {n c : Nat} {A B : Sd} {M N : List Int} {v : VF} (hn : n <= 20) (hy1 : KeyOk x y1) (hy2 : KeyOk x y2) (h51 : y1.n <= 500) (h52 : y2.n <= 500) (zy1 : y1.n ≠ 0) (zy2 : y2.n ≠ 0) (hA : Side x A M (200 * n)) (hB : Side x B N (200 * n)) (fA : Full A M) (fB : Full B N) (hl : ∀ rd, CodeOk Try.prog rd (.loop lb) (qERR x y1 y2 n c ha.kb hz.AB) (.exit 4) (st HRR x n c n A B v)) : LRRRR x y1 y2 n c n A B v ha.kb hz.AB hq.TT0 hq.tgN :=
 ⟨(e20 ⟨(e20 ⟨⟨⟨⟨(prOkRR hn hy1 hy2 h51 h52 zy1 zy2), hl⟩, (aTT hA (by omega))⟩, (aTT hB (by omega))⟩, (aT1 hA fA (by have := hA.len; omega))⟩ (tag_of hA (by omega) fA.m1)), (aT1 hB fB (by have := hB.len; omega))⟩ (tag_of hB (by omega) fB.m1)), trivial⟩
def LRRSS (x : Acts) (y1 y2 : hq.KY) (n c k : Nat) (A B : Sd) (v : VF) (KF : hd.KT') (Aw : hd.AT) (TT : hq.TTf) (TG : hq.TGf) : Prop := ((E20 ((E20 (((((PRRR x y1 y2 n c KF Aw) /\ (∀ rd, CodeOk Try.prog rd (.loop lb) (qERR x y1 y2 n c KF Aw) (.exit 4) (st HSS x n c k A B v))) /\ askTT TT A) /\ askTT TT B) /\ askT1 TG x A (m1 A) A.a) (TT (rowV .u8 64 (hx.ch A.w)) (hz.cH A.h A.z)) (TG (hq.WK x A.y) (m1 A))) /\ askT1 TG x B (m1 A) A.a) (TT (rowV .u8 64 (hx.ch B.w)) (hz.cH B.h B.z)) (TG (hq.WK x B.y) (m1 A))) /\ True)
theorem lawRRSS (x : Acts) (y1 y2 : hq.KY) (n c k : Nat) (A B : Sd) (v : VF) (KF : hd.KT') (Aw : hd.AT) (TT : hq.TTf) (TG : hq.TGf) : call3 x y1 y2 (KQRR x y1 y2 n c KF Aw TT TG A B v (.exit 4) (st HSS x n c k A B v)) n c (none :: none :: F :: no 3 (F :: no 6 (F :: F :: F :: no 33 (ty 20 (no 10 (ty 20 [])))))) = some (.bool true, LRRSS x y1 y2 n c k A B v KF Aw TT TG) := by kernel_rfl
theorem okRRSS {x : Acts} {y1 y2 : hq.KY} {n c : Nat} {A B : Sd} {M N : List Int} {v : VF} (hn : n <= 20) (hy1 : KeyOk x y1) (hy2 : KeyOk x y2) (h51 : y1.n <= 500) (h52 : y2.n <= 500) (zy1 : y1.n ≠ 0) (zy2 : y2.n ≠ 0) (hA : Side x A M (200 * n)) (hB : Side x B M (200 * n)) (fA : Full A M) (hl : ∀ rd, CodeOk Try.prog rd (.loop lb) (qERR x y1 y2 n c ha.kb hz.AB) (.exit 4) (st HSS x n c n A B v)) : LRRSS x y1 y2 n c n A B v ha.kb hz.AB hq.TT0 hq.tgN :=
 ⟨(e20 ⟨(e20 ⟨⟨⟨⟨(prOkRR hn hy1 hy2 h51 h52 zy1 zy2), hl⟩, (aTT hA (by omega))⟩, (aTT hB (by omega))⟩, (aT1 hA fA (by have := hA.len; omega))⟩ (tag_of hA (by omega) fA.m1)), (aT1 hB fA (by have := hA.len; omega))⟩ (tag_of hB (by omega) fA.m1)), trivial⟩
def LYRR (x : Acts) (y1 y2 : hq.KY) (n c k : Nat) (A B : Sd) (v : VF) (KF : hd.KT') (Aw : hd.AT) (TT : hq.TTf) (TG : hq.TGf) : Prop := ((PRRR x y1 y2 n c KF Aw) /\ (∀ rd, CodeOk Try.prog rd (.loop lb) (qERR x y1 y2 n c KF Aw) .ret (sY x n v)))
theorem lawYRR (x : Acts) (y1 y2 : hq.KY) (n c k : Nat) (A B : Sd) (v : VF) (KF : hd.KT') (Aw : hd.AT) (TT : hq.TTf) (TG : hq.TGf) : call3 x y1 y2 (KQRR x y1 y2 n c KF Aw TT TG A B v .ret (sY x n v)) n c (none :: none :: F :: no 3 (F :: no 6 (F :: F :: F :: []))) = some (.bool true, LYRR x y1 y2 n c k A B v KF Aw TT TG) := by kernel_rfl
theorem okYRR {x : Acts} {y1 y2 : hq.KY} {n c : Nat} {A B : Sd} {v : VF} (hn : n <= 20) (hy1 : KeyOk x y1) (hy2 : KeyOk x y2) (h51 : y1.n <= 500) (h52 : y2.n <= 500) (zy1 : y1.n ≠ 0) (zy2 : y2.n ≠ 0) (hl : ∀ rd, CodeOk Try.prog rd (.loop lb) (qERR x y1 y2 n c ha.kb hz.AB) .ret (sY x n v)) : LYRR x y1 y2 n c n A B v ha.kb hz.AB hq.TT0 hq.tgN :=
 ⟨(prOkRR hn hy1 hy2 h51 h52 zy1 zy2), hl⟩
end
end hs
end Go.Proofs.Ytgljibcokcgfbaa
