/- What the functions of this layer come to: read off their code by the clean reading, loops by induction. -/
import Derived.Test.YtmiadmfeadcoaaaClnW
import Derived.Test.YtmiadmfeadcoaaaClnQ6
import Derived.IntWalk
set_option linter.unusedVariables false
set_option linter.unusedSimpArgs false
set_option linter.deprecated false
set_option maxRecDepth 100000
namespace Go.Proofs.Ytmiadmfeadcoaaa
open Go.ChangeShapes Go.WideShapes Go.ChangeAt Go.RowKit Go.Cln
namespace sw
noncomputable section
def nn (k : Nat) : List (Option Bool) := List.replicate k none
/-- the way of a number whose tail has k noughts; m is what the kernel is told of 64 less what is over -/
def orT (m k : Nat) : List (Option Bool) := [some false, none, none, some false] ++ ([none, none, some false] ++ (nn m ++ (some true :: (nn 57 ++ ([some false, none, none, some false] ++ ((List.replicate k [none, some true]).flatten ++ ([none, some false] ++ (nn 43 ++ [some true, some true, some true, some true]))))))))
def xTt (n : Int) : Int := IntKind.u64.wrap (IntKind.u64.wrap n * 8)
def yTt (n : Int) : Nat → Int
  | 0 => xTt n
  | j + 1 => (yTt n j).fdiv (2 ^ 8)
def cBy (n : Int) (j : Nat) : UInt8 := UInt8.ofNat (IntKind.u8.wrap (yTt n j)).toNat
def rBy (n : Int) (i : Nat) : UInt8 := UInt8.ofNat (IntKind.u8.wrap (((xTt n).fdiv (2 ^ (8 * i))).tmod 256)).toNat
def zB : UInt8 := UInt8.ofNat (Int.toNat 0)
def sCo (k : Nat) (n : Int) : ByteArray := ⟨(UInt8.ofNat (Int.toNat 128) :: (List.replicate k zB ++ [cBy n 7, cBy n 6, cBy n 5, cBy n 4, cBy n 3, cBy n 2, cBy n 1, cBy n 0])).toArray⟩
def sRf (k : Nat) (n : Int) : ByteArray := ⟨(UInt8.ofNat (Int.toNat 128) :: (List.replicate k zB ++ [rBy n 7, rBy n 6, rBy n 5, rBy n 4, rBy n 3, rBy n 2, rBy n 1, rBy n 0])).toArray⟩
def cd (n : Int) (j : Nat) : Bool := (IntKind.i64.wrap (n + (j : Int))).tmod 64 != 56
def lP (n : Int) (a : Prop) : Nat → Prop
  | 0 => a
  | k + 1 => lP n a k ∧ cd n (k + 1) = true
def eqT (k : Nat) (n : Int) : Bool := (sCo k n).toList == (sRf k n).toList
def pT (m k : Nat) (n : Int) : Prop := ((((lP n (((((True ∧ decide (n < 0) = false) ∧ decide (n > 1152921504606846976) = false) ∧ IntKind.i64.wrap (64 - (IntKind.i64.wrap (IntKind.i64.wrap (n + 1) + 8)).tmod 64) = Int.ofNat m) ∧ decide (n < 0) = false) ∧ decide (n > 1152921504606846976) = false) k ∧ cd n (k + 1) = false) ∧ eqT k n = true) ∧ eqT k n = true) ∧ eqT k n = true) ∧ eqT k n = true
def KT : Given := { Given.calls (oneF 10 (.bool true)) with fits := true }
def runT (m k : Nat) (n : Int) : Option (Value × St) := (mk Try.prog KT 300).call 6 [.int .i64 n] (St.start 0 .leaf (orT m k))
end
end sw
end Go.Proofs.Ytmiadmfeadcoaaa
namespace Go.Proofs.Ytmiadmfeadcoaaa
open Go.ChangeShapes Go.WideShapes Go.ChangeAt Go.RowKit Go.Cln
namespace sw
theorem t1 (n : Int) : (runT 1 1 n).map (fun r => (r.1, r.2.obl)) = some (.bool true, pT 1 1 n) := by kernel_rfl
theorem t2 (n : Int) : (runT 2 2 n).map (fun r => (r.1, r.2.obl)) = some (.bool true, pT 2 2 n) := by kernel_rfl
theorem t3 (n : Int) : (runT 3 3 n).map (fun r => (r.1, r.2.obl)) = some (.bool true, pT 3 3 n) := by kernel_rfl
theorem t4 (n : Int) : (runT 4 4 n).map (fun r => (r.1, r.2.obl)) = some (.bool true, pT 4 4 n) := by kernel_rfl
theorem t5 (n : Int) : (runT 5 5 n).map (fun r => (r.1, r.2.obl)) = some (.bool true, pT 5 5 n) := by kernel_rfl
theorem t6 (n : Int) : (runT 6 6 n).map (fun r => (r.1, r.2.obl)) = some (.bool true, pT 6 6 n) := by kernel_rfl
theorem t7 (n : Int) : (runT 7 7 n).map (fun r => (r.1, r.2.obl)) = some (.bool true, pT 7 7 n) := by kernel_rfl
theorem t8 (n : Int) : (runT 8 8 n).map (fun r => (r.1, r.2.obl)) = some (.bool true, pT 8 8 n) := by kernel_rfl
theorem t9 (n : Int) : (runT 9 9 n).map (fun r => (r.1, r.2.obl)) = some (.bool true, pT 9 9 n) := by kernel_rfl
theorem t10 (n : Int) : (runT 10 10 n).map (fun r => (r.1, r.2.obl)) = some (.bool true, pT 10 10 n) := by kernel_rfl
theorem t11 (n : Int) : (runT 11 11 n).map (fun r => (r.1, r.2.obl)) = some (.bool true, pT 11 11 n) := by kernel_rfl
theorem t12 (n : Int) : (runT 12 12 n).map (fun r => (r.1, r.2.obl)) = some (.bool true, pT 12 12 n) := by kernel_rfl
theorem t13 (n : Int) : (runT 13 13 n).map (fun r => (r.1, r.2.obl)) = some (.bool true, pT 13 13 n) := by kernel_rfl
theorem t14 (n : Int) : (runT 14 14 n).map (fun r => (r.1, r.2.obl)) = some (.bool true, pT 14 14 n) := by kernel_rfl
theorem t15 (n : Int) : (runT 15 15 n).map (fun r => (r.1, r.2.obl)) = some (.bool true, pT 15 15 n) := by kernel_rfl
theorem t16 (n : Int) : (runT 16 16 n).map (fun r => (r.1, r.2.obl)) = some (.bool true, pT 16 16 n) := by kernel_rfl
end sw
end Go.Proofs.Ytmiadmfeadcoaaa
namespace Go.Proofs.Ytmiadmfeadcoaaa
open Go.ChangeShapes Go.WideShapes Go.ChangeAt Go.RowKit Go.Cln
namespace sw
theorem t17 (n : Int) : (runT 17 17 n).map (fun r => (r.1, r.2.obl)) = some (.bool true, pT 17 17 n) := by kernel_rfl
theorem t18 (n : Int) : (runT 18 18 n).map (fun r => (r.1, r.2.obl)) = some (.bool true, pT 18 18 n) := by kernel_rfl
theorem t19 (n : Int) : (runT 19 19 n).map (fun r => (r.1, r.2.obl)) = some (.bool true, pT 19 19 n) := by kernel_rfl
theorem t20 (n : Int) : (runT 20 20 n).map (fun r => (r.1, r.2.obl)) = some (.bool true, pT 20 20 n) := by kernel_rfl
theorem t21 (n : Int) : (runT 21 21 n).map (fun r => (r.1, r.2.obl)) = some (.bool true, pT 21 21 n) := by kernel_rfl
theorem t22 (n : Int) : (runT 22 22 n).map (fun r => (r.1, r.2.obl)) = some (.bool true, pT 22 22 n) := by kernel_rfl
theorem t23 (n : Int) : (runT 23 23 n).map (fun r => (r.1, r.2.obl)) = some (.bool true, pT 23 23 n) := by kernel_rfl
theorem t24 (n : Int) : (runT 24 24 n).map (fun r => (r.1, r.2.obl)) = some (.bool true, pT 24 24 n) := by kernel_rfl
theorem t25 (n : Int) : (runT 25 25 n).map (fun r => (r.1, r.2.obl)) = some (.bool true, pT 25 25 n) := by kernel_rfl
theorem t26 (n : Int) : (runT 26 26 n).map (fun r => (r.1, r.2.obl)) = some (.bool true, pT 26 26 n) := by kernel_rfl
theorem t27 (n : Int) : (runT 27 27 n).map (fun r => (r.1, r.2.obl)) = some (.bool true, pT 27 27 n) := by kernel_rfl
theorem t28 (n : Int) : (runT 28 28 n).map (fun r => (r.1, r.2.obl)) = some (.bool true, pT 28 28 n) := by kernel_rfl
theorem t29 (n : Int) : (runT 29 29 n).map (fun r => (r.1, r.2.obl)) = some (.bool true, pT 29 29 n) := by kernel_rfl
theorem t30 (n : Int) : (runT 30 30 n).map (fun r => (r.1, r.2.obl)) = some (.bool true, pT 30 30 n) := by kernel_rfl
theorem t31 (n : Int) : (runT 31 31 n).map (fun r => (r.1, r.2.obl)) = some (.bool true, pT 31 31 n) := by kernel_rfl
theorem t32 (n : Int) : (runT 32 32 n).map (fun r => (r.1, r.2.obl)) = some (.bool true, pT 32 32 n) := by kernel_rfl
end sw
end Go.Proofs.Ytmiadmfeadcoaaa
namespace Go.Proofs.Ytmiadmfeadcoaaa
open Go.ChangeShapes Go.WideShapes Go.ChangeAt Go.RowKit Go.Cln
namespace sw
theorem t33 (n : Int) : (runT 33 33 n).map (fun r => (r.1, r.2.obl)) = some (.bool true, pT 33 33 n) := by kernel_rfl
theorem t34 (n : Int) : (runT 34 34 n).map (fun r => (r.1, r.2.obl)) = some (.bool true, pT 34 34 n) := by kernel_rfl
theorem t35 (n : Int) : (runT 35 35 n).map (fun r => (r.1, r.2.obl)) = some (.bool true, pT 35 35 n) := by kernel_rfl
theorem t36 (n : Int) : (runT 36 36 n).map (fun r => (r.1, r.2.obl)) = some (.bool true, pT 36 36 n) := by kernel_rfl
theorem t37 (n : Int) : (runT 37 37 n).map (fun r => (r.1, r.2.obl)) = some (.bool true, pT 37 37 n) := by kernel_rfl
theorem t38 (n : Int) : (runT 38 38 n).map (fun r => (r.1, r.2.obl)) = some (.bool true, pT 38 38 n) := by kernel_rfl
theorem t39 (n : Int) : (runT 39 39 n).map (fun r => (r.1, r.2.obl)) = some (.bool true, pT 39 39 n) := by kernel_rfl
theorem t40 (n : Int) : (runT 40 40 n).map (fun r => (r.1, r.2.obl)) = some (.bool true, pT 40 40 n) := by kernel_rfl
theorem t41 (n : Int) : (runT 41 41 n).map (fun r => (r.1, r.2.obl)) = some (.bool true, pT 41 41 n) := by kernel_rfl
theorem t42 (n : Int) : (runT 42 42 n).map (fun r => (r.1, r.2.obl)) = some (.bool true, pT 42 42 n) := by kernel_rfl
theorem t43 (n : Int) : (runT 43 43 n).map (fun r => (r.1, r.2.obl)) = some (.bool true, pT 43 43 n) := by kernel_rfl
theorem t44 (n : Int) : (runT 44 44 n).map (fun r => (r.1, r.2.obl)) = some (.bool true, pT 44 44 n) := by kernel_rfl
theorem t45 (n : Int) : (runT 45 45 n).map (fun r => (r.1, r.2.obl)) = some (.bool true, pT 45 45 n) := by kernel_rfl
theorem t46 (n : Int) : (runT 46 46 n).map (fun r => (r.1, r.2.obl)) = some (.bool true, pT 46 46 n) := by kernel_rfl
theorem t47 (n : Int) : (runT 47 47 n).map (fun r => (r.1, r.2.obl)) = some (.bool true, pT 47 47 n) := by kernel_rfl
theorem t48 (n : Int) : (runT 48 48 n).map (fun r => (r.1, r.2.obl)) = some (.bool true, pT 48 48 n) := by kernel_rfl
end sw
end Go.Proofs.Ytmiadmfeadcoaaa
namespace Go.Proofs.Ytmiadmfeadcoaaa
open Go.ChangeShapes Go.WideShapes Go.ChangeAt Go.RowKit Go.Cln
namespace sw
theorem t49 (n : Int) : (runT 49 49 n).map (fun r => (r.1, r.2.obl)) = some (.bool true, pT 49 49 n) := by kernel_rfl
theorem t50 (n : Int) : (runT 50 50 n).map (fun r => (r.1, r.2.obl)) = some (.bool true, pT 50 50 n) := by kernel_rfl
theorem t51 (n : Int) : (runT 51 51 n).map (fun r => (r.1, r.2.obl)) = some (.bool true, pT 51 51 n) := by kernel_rfl
theorem t52 (n : Int) : (runT 52 52 n).map (fun r => (r.1, r.2.obl)) = some (.bool true, pT 52 52 n) := by kernel_rfl
theorem t53 (n : Int) : (runT 53 53 n).map (fun r => (r.1, r.2.obl)) = some (.bool true, pT 53 53 n) := by kernel_rfl
theorem t54 (n : Int) : (runT 54 54 n).map (fun r => (r.1, r.2.obl)) = some (.bool true, pT 54 54 n) := by kernel_rfl
theorem t55 (n : Int) : (runT 55 55 n).map (fun r => (r.1, r.2.obl)) = some (.bool true, pT 55 55 n) := by kernel_rfl
theorem t56 (n : Int) : (runT 56 56 n).map (fun r => (r.1, r.2.obl)) = some (.bool true, pT 56 56 n) := by kernel_rfl
theorem t57 (n : Int) : (runT 57 57 n).map (fun r => (r.1, r.2.obl)) = some (.bool true, pT 57 57 n) := by kernel_rfl
theorem t58 (n : Int) : (runT 58 58 n).map (fun r => (r.1, r.2.obl)) = some (.bool true, pT 58 58 n) := by kernel_rfl
theorem t59 (n : Int) : (runT 59 59 n).map (fun r => (r.1, r.2.obl)) = some (.bool true, pT 59 59 n) := by kernel_rfl
theorem t60 (n : Int) : (runT 60 60 n).map (fun r => (r.1, r.2.obl)) = some (.bool true, pT 60 60 n) := by kernel_rfl
theorem t61 (n : Int) : (runT 61 61 n).map (fun r => (r.1, r.2.obl)) = some (.bool true, pT 61 61 n) := by kernel_rfl
theorem t62 (n : Int) : (runT 62 62 n).map (fun r => (r.1, r.2.obl)) = some (.bool true, pT 62 62 n) := by kernel_rfl
theorem t63 (n : Int) : (runT 63 63 n).map (fun r => (r.1, r.2.obl)) = some (.bool true, pT 63 63 n) := by kernel_rfl
theorem t64 (n : Int) : (runT 64 0 n).map (fun r => (r.1, r.2.obl)) = some (.bool true, pT 64 0 n) := by kernel_rfl
end sw
end Go.Proofs.Ytmiadmfeadcoaaa
namespace Go.Proofs.Ytmiadmfeadcoaaa
open Go.ChangeShapes Go.WideShapes Go.ChangeAt Go.RowKit Go.Cln
namespace sw
theorem yT_eq {n : Int} (h0 : 0 ≤ n) (h1 : n ≤ 1152921504606846976) : ∀ j, yTt n j = (n * 8) / 2 ^ (8 * j)
  | 0 => by
    show xTt n = _
    unfold xTt
    rw [IntKind.wrap_u64, IntKind.wrap_u64]; omega
  | j + 1 => by
    show (yTt n j).fdiv (2 ^ 8) = _
    rw [yT_eq h0 h1 j, Int.fdiv_eq_ediv_of_nonneg _ (by decide), Int.ediv_ediv_of_nonneg (by exact Int.pow_nonneg (by decide)), ← Int.pow_add]
    congr 1
theorem byte_eq {n : Int} (h0 : 0 ≤ n) (h1 : n ≤ 1152921504606846976) (j : Nat) : cBy n j = rBy n j := by
  unfold cBy rBy
  have hx : xTt n = n * 8 := yT_eq h0 h1 0 |>.trans (by omega)
  rw [yT_eq h0 h1 j, hx, Int.fdiv_eq_ediv_of_nonneg _ (Int.pow_nonneg (by decide))]
  have hnn : 0 ≤ n * 8 / 2 ^ (8 * j) := Int.ediv_nonneg (by omega) (Int.pow_nonneg (by decide))
  rw [Int.tmod_eq_emod_of_nonneg hnn]
  generalize n * 8 / 2 ^ (8 * j) = x at hnn
  simp only [IntKind.wrap_u8]
  congr 2
  omega
theorem eqT_true {n : Int} (h0 : 0 ≤ n) (h1 : n ≤ 1152921504606846976) (k : Nat) : eqT k n = true := by
  unfold eqT sCo sRf
  rw [byte_eq h0 h1, byte_eq h0 h1, byte_eq h0 h1, byte_eq h0 h1, byte_eq h0 h1, byte_eq h0 h1, byte_eq h0 h1, byte_eq h0 h1]
  exact BEq.rfl
theorem cd_iff {n : Int} (h0 : 0 ≤ n) (h1 : n ≤ 1152921504606846976) {j : Nat} (hj : j ≤ 100) : cd n j = decide ((n + j) % 64 ≠ 56) := by
  unfold cd
  have : IntKind.i64.wrap (n + (j : Int)) = n + j := by rw [IntKind.wrap_i64]; omega
  rw [this, Int.tmod_eq_emod_of_nonneg (by omega)]
  by_cases h : (n + j) % 64 = 56
  · rw [h]; rfl
  · simp [h]
theorem lP_all {n : Int} {a : Prop} (ha : a) : ∀ k, (∀ j, j < k → cd n (j + 1) = true) → lP n a k
  | 0, _ => ha
  | k + 1, h => ⟨lP_all ha k fun j hj => h j (by omega), h k (by omega)⟩
theorem pT_all {n : Int} (h0 : 0 ≤ n) (h1 : n ≤ 1152921504606846976) {m : Nat} (hm : (m : Int) = 64 - (n + 9) % 64) : pT m (m % 64) n := by
  have e1 : IntKind.i64.wrap (n + 1) = n + 1 := by rw [IntKind.wrap_i64]; omega
  have e2 : IntKind.i64.wrap (n + 1 + 8) = n + 9 := by rw [IntKind.wrap_i64]; omega
  have hpin : IntKind.i64.wrap (64 - (IntKind.i64.wrap (IntKind.i64.wrap (n + 1) + 8)).tmod 64) = Int.ofNat m := by
    rw [e1, e2, Int.tmod_eq_emod_of_nonneg (by omega), IntKind.wrap_i64]
    show _ = (m : Int)
    omega
  have hk : m % 64 < 64 := Nat.mod_lt _ (by decide)
  refine ⟨⟨⟨⟨⟨lP_all ⟨⟨⟨⟨⟨trivial, ?_⟩, ?_⟩, hpin⟩, ?_⟩, ?_⟩ _ fun j hj => ?_, ?_⟩, eqT_true h0 h1 _⟩, eqT_true h0 h1 _⟩, eqT_true h0 h1 _⟩, eqT_true h0 h1 _⟩
  all_goals first
    | (rw [decide_eq_false_iff_not]; omega)
    | (rw [cd_iff h0 h1 (by omega), decide_eq_true_eq]; omega)
    | (rw [cd_iff h0 h1 (by omega), decide_eq_false_iff_not]; omega)
noncomputable section
theorem tNeg (n : Int) : ((mk Try.prog KT 300).call 6 [.int .i64 n] (St.start 0 .leaf [some true, none, none, none, some true])).map (fun r => (r.1, r.2.obl)) = some (.bool true, (True ∧ decide (n < 0) = true) ∧ decide (n < 0) = true) := by kernel_rfl
theorem tBig (n : Int) : ((mk Try.prog KT 300).call 6 [.int .i64 n] (St.start 0 .leaf [some false, none, none, some true, some false, none, none, some true])).map (fun r => (r.1, r.2.obl)) = some (.bool true, (((True ∧ decide (n < 0) = false) ∧ decide (n > 1152921504606846976) = true) ∧ decide (n < 0) = false) ∧ decide (n > 1152921504606846976) = true) := by kernel_rfl
end
theorem KT_ok : GivenOk Try.prog KT := (CallsOk.one rfl known).given.fit
theorem sha1Tails (W : World) (n : Int) : Calls Try.prog 6 #[.int .i64 n] W fun e w' => e = .returned (.bool true) ∧ Below W.heap.size W w' := by
  by_cases h0 : n < 0
  · exact ran pg KT_ok (tNeg n) ⟨⟨trivial, by simpa using h0⟩, by simpa using h0⟩ rfl rfl W
  by_cases h1 : n > 1152921504606846976
  · exact ran pg KT_ok (tBig n) ⟨⟨⟨⟨trivial, by simpa using h0⟩, by simpa using h1⟩, by simpa using h0⟩, by simpa using h1⟩ rfl rfl W
  have g0 : 0 ≤ n := by omega
  have g1 : n ≤ 1152921504606846976 := by omega
  obtain ⟨m, hm⟩ : ∃ m : Nat, (m : Int) = 64 - (n + 9) % 64 := ⟨(64 - (n + 9) % 64).toNat, by omega⟩
  have hp := pT_all g0 g1 hm
  have hr : ∀ m, 1 ≤ m → m ≤ 64 → (runT m (m % 64) n).map (fun r => (r.1, r.2.obl)) = some (.bool true, pT m (m % 64) n) := fun m a b => by
    match m, a, b with
    | 1, _, _ => exact t1 n
    | 2, _, _ => exact t2 n
    | 3, _, _ => exact t3 n
    | 4, _, _ => exact t4 n
    | 5, _, _ => exact t5 n
    | 6, _, _ => exact t6 n
    | 7, _, _ => exact t7 n
    | 8, _, _ => exact t8 n
    | 9, _, _ => exact t9 n
    | 10, _, _ => exact t10 n
    | 11, _, _ => exact t11 n
    | 12, _, _ => exact t12 n
    | 13, _, _ => exact t13 n
    | 14, _, _ => exact t14 n
    | 15, _, _ => exact t15 n
    | 16, _, _ => exact t16 n
    | 17, _, _ => exact t17 n
    | 18, _, _ => exact t18 n
    | 19, _, _ => exact t19 n
    | 20, _, _ => exact t20 n
    | 21, _, _ => exact t21 n
    | 22, _, _ => exact t22 n
    | 23, _, _ => exact t23 n
    | 24, _, _ => exact t24 n
    | 25, _, _ => exact t25 n
    | 26, _, _ => exact t26 n
    | 27, _, _ => exact t27 n
    | 28, _, _ => exact t28 n
    | 29, _, _ => exact t29 n
    | 30, _, _ => exact t30 n
    | 31, _, _ => exact t31 n
    | 32, _, _ => exact t32 n
    | 33, _, _ => exact t33 n
    | 34, _, _ => exact t34 n
    | 35, _, _ => exact t35 n
    | 36, _, _ => exact t36 n
    | 37, _, _ => exact t37 n
    | 38, _, _ => exact t38 n
    | 39, _, _ => exact t39 n
    | 40, _, _ => exact t40 n
    | 41, _, _ => exact t41 n
    | 42, _, _ => exact t42 n
    | 43, _, _ => exact t43 n
    | 44, _, _ => exact t44 n
    | 45, _, _ => exact t45 n
    | 46, _, _ => exact t46 n
    | 47, _, _ => exact t47 n
    | 48, _, _ => exact t48 n
    | 49, _, _ => exact t49 n
    | 50, _, _ => exact t50 n
    | 51, _, _ => exact t51 n
    | 52, _, _ => exact t52 n
    | 53, _, _ => exact t53 n
    | 54, _, _ => exact t54 n
    | 55, _, _ => exact t55 n
    | 56, _, _ => exact t56 n
    | 57, _, _ => exact t57 n
    | 58, _, _ => exact t58 n
    | 59, _, _ => exact t59 n
    | 60, _, _ => exact t60 n
    | 61, _, _ => exact t61 n
    | 62, _, _ => exact t62 n
    | 63, _, _ => exact t63 n
    | 64, _, _ => exact t64 n
    | k + 65, _, b => omega
  exact ran pg KT_ok (hr m (by omega) (by omega)) hp rfl rfl W
end sw
end Go.Proofs.Ytmiadmfeadcoaaa
