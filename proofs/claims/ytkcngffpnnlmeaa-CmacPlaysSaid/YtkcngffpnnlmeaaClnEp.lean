/- Read off the code by the clean reading. -/
import Derived.Test.YtkcngffpnnlmeaaClnEo
set_option linter.unusedVariables false
set_option linter.unusedSimpArgs false
set_option linter.deprecated false
set_option maxRecDepth 100000
namespace Go.Proofs.Ytkcngffpnnlmeaa
open Go.ChangeShapes Go.WideShapes Go.ChangeAt Go.RowKit Go.Cln
namespace ae
noncomputable section
def hNw (K : List Int) (ks f1 f2 : Nat -> Int) : List (Option Ob) := some (.cells (.ints .u8 K) 5) :: none :: some (.cells (.lit (rowV .u8 176 ks ++ [.bool true])) 84) :: (List.replicate 89 none ++ [some (.cells (.lit (.pointer (some ⟨2, 0, none⟩) :: (rowV .u8 16 f1 ++ (rowV .u8 16 f2 ++ (rowV .u8 16 (fun _ => 0) ++ [.slice none 0 0]))))) 70)])
def ks93 : List Bool := [true, false, true] ++ (List.replicate 89 false ++ [true])
theorem runNw_n (T : CT) (K : List Int) (c : Nat) : ((mk Try.prog (KCm T) 200).call 17 [sl 0 0 none 16 c] (smSt 1 (hK K) [none, none, some true])).map (fun r => (r.1, r.2.obl, r.2.next, keepL ks93 r.2.heap.get 0)) = some (.tuple #[P0 92 0, .int .i64 0], p10 T K, (hNw K (T.ks (kRw K)) (T.db (eL T K)) (T.db (R16 (T.db (eL T K))))).length, hNw K (T.ks (kRw K)) (T.db (eL T K)) (T.db (R16 (T.db (eL T K))))) := by kernel_rfl
theorem runNw_1 (T : CT) (K : List Int) (c : Nat) : ((mk Try.prog (KCm T) 200).call 17 [sl 0 0 (some 1) 16 c] (smSt 1 (hK K) [none, none, some true])).map (fun r => (r.1, r.2.obl, r.2.next, keepL ks93 r.2.heap.get 0)) = some (.tuple #[P0 92 0, .int .i64 0], p10 T K, (hNw K (T.ks (kRw K)) (T.db (eL T K)) (T.db (R16 (T.db (eL T K))))).length, hNw K (T.ks (kRw K)) (T.db (eL T K)) (T.db (R16 (T.db (eL T K))))) := by kernel_rfl
def ksK (K : List Int) : Nat -> Int := ksF BOX (keyOf K)
theorem db2 (K : List Int) : R16 (CT0.db (R16 (CT0.db (eL CT0 K)))) = R16 (snd K) := by
 rw [eL_eq]
 show R16 (dF (intAt (R16 (dF (intAt (R16 (enc K fun _ => 0))))))) = _
 rw [db_at (enc K fun _ => 0), db_at]; rfl
theorem p10_ok {K : List Int} (h : OkK K) : p10 CT0 K := ⟨⟨⟨⟨⟨trivial, by rw [h.1]; decide⟩, rfl, bs_at h.2⟩, rfl⟩, rfl, by rw [eL_eq]; exact bs_at (enc_in _ _)⟩, rfl, bs_at dF_in⟩
theorem new_ok (K : List Int) (c : Nat) (g : Option Nat) (hg : g = none ∨ g = some 1) (h : OkK K) : CallOk Try.prog 17 [sl 0 0 g 16 c] (smSt 1 (hK K) []) (.tuple #[P0 92 0, .int .i64 0]) (smSt 1 (hNw K (ksK K) (fst K) (snd K)) []) := by
 have e0 : R176 (CT0.ks (kRw K)) = R176 (ksK K) := rowV_congr fun j _ => ksF_congr (fun j hj => at16 hj) j
 have e1 : R16 (CT0.db (eL CT0 K)) = R16 (fst K) := by rw [eL_eq]; exact db_at _
 have e : hNw K (CT0.ks (kRw K)) (CT0.db (eL CT0 K)) (CT0.db (R16 (CT0.db (eL CT0 K)))) = hNw K (ksK K) (fst K) (snd K) := by
  unfold hNw
  have a0 : rowV .u8 176 (CT0.ks (kRw K)) = rowV .u8 176 (ksK K) := e0
  have a1 : rowV .u8 16 (CT0.db (eL CT0 K)) = rowV .u8 16 (fst K) := e1
  have a2 : rowV .u8 16 (CT0.db (R16 (CT0.db (eL CT0 K)))) = rowV .u8 16 (snd K) := db2 K
  rw [a0, a1, a2]
 rcases hg with rfl | rfl
 ·have := frame_by pg (KCm_ok CT0) _ (runNw_n CT0 K c) (p10_ok h) (by rfl) rfl
  rw [e] at this; exact this
 ·have := frame_by pg (KCm_ok CT0) _ (runNw_1 CT0 K c) (p10_ok h) (by rfl) rfl
  rw [e] at this; exact this
def K0W (U : UX) (T : CT) : Given := Given.frames Given.nothing (FW U T)
theorem K0W_ok (U : UX) (T : CT) : GivenOk Try.prog (K0W U T) := (GivenOk.nothing _).frames (FW_ok U T)
def lst (M : List Int) (r i : Nat) : Int := if i < r then M.getD i 0 else if i = r then 128 else 0
def h19 (M : List Int) (ks f1 f2 x : Nat -> Int) (r c : Nat) : List (Option Ob) := [some (.cells (.ints .u8 M) 5), some (.cells (.lit (rowV .u8 176 ks ++ [.bool true])) 84), some (.cells (.lit (.pointer (some ⟨1, 0, none⟩) :: (rowV .u8 16 f1 ++ (rowV .u8 16 f2 ++ (rowV .u8 16 x ++ [sl 0 0 (some 1) r c]))))) 70)]
def h19z (ks f1 f2 x : Nat -> Int) : List (Option Ob) := [some (.cells (.lit (rowV .u8 176 ks ++ [.bool true])) 84), some (.cells (.lit (.pointer (some ⟨0, 0, none⟩) :: (rowV .u8 16 f1 ++ (rowV .u8 16 f2 ++ (rowV .u8 16 x ++ [.slice none 0 0]))))) 70)]
def pRd (M : List Int) : Nat -> Prop
 | 0 => True
 | i + 1 => pRd M i /\ i < M.length
def p19 (U : UX) (T : CT) (M : List Int) (r : Nat) : Prop := ((pRd M r /\ U = U0) /\ U = U0) /\ T = CT0
def tgL (U : UX) (T : CT) (ks f x : Nat -> Int) (M : List Int) (r : Nat) : Nat -> Int := T.mkb (R176 ks) (R16 (U (R16 x) (R16 (U (R16 (lst M r)) (R16 f)))))
def ks100 : List Bool := [true, true, true] ++ List.replicate 97 false
def ks99 : List Bool := [true, true] ++ List.replicate 97 false
def o19 (r : Nat) : List (Option Bool) := nn 9 ++ (List.range r).flatMap fun _ => [none, none, none, some true, none]
theorem run19_1 (U : UX) (T : CT) (M : List Int) (ks f1 f2 x : Nat -> Int) (c : Nat) : ((mk Try.prog (K0W U T) 200).call 19 [P0 2 0] (smSt 3 (h19 M ks f1 f2 x 1 c) (o19 1))).map (fun r => (r.1, r.2.obl, r.2.next, keepL ks100 r.2.heap.get 0)) = some (.tuple #[row16 (tgL U T ks f2 x M 1), .int .i64 0], p19 U T M 1, (h19 M ks f1 f2 x 1 c ++ List.replicate 97 none).length, h19 M ks f1 f2 x 1 c ++ List.replicate 97 none) := by kernel_rfl
theorem run19_2 (U : UX) (T : CT) (M : List Int) (ks f1 f2 x : Nat -> Int) (c : Nat) : ((mk Try.prog (K0W U T) 200).call 19 [P0 2 0] (smSt 3 (h19 M ks f1 f2 x 2 c) (o19 2))).map (fun r => (r.1, r.2.obl, r.2.next, keepL ks100 r.2.heap.get 0)) = some (.tuple #[row16 (tgL U T ks f2 x M 2), .int .i64 0], p19 U T M 2, (h19 M ks f1 f2 x 2 c ++ List.replicate 97 none).length, h19 M ks f1 f2 x 2 c ++ List.replicate 97 none) := by kernel_rfl
theorem run19_3 (U : UX) (T : CT) (M : List Int) (ks f1 f2 x : Nat -> Int) (c : Nat) : ((mk Try.prog (K0W U T) 200).call 19 [P0 2 0] (smSt 3 (h19 M ks f1 f2 x 3 c) (o19 3))).map (fun r => (r.1, r.2.obl, r.2.next, keepL ks100 r.2.heap.get 0)) = some (.tuple #[row16 (tgL U T ks f2 x M 3), .int .i64 0], p19 U T M 3, (h19 M ks f1 f2 x 3 c ++ List.replicate 97 none).length, h19 M ks f1 f2 x 3 c ++ List.replicate 97 none) := by kernel_rfl
theorem run19_4 (U : UX) (T : CT) (M : List Int) (ks f1 f2 x : Nat -> Int) (c : Nat) : ((mk Try.prog (K0W U T) 200).call 19 [P0 2 0] (smSt 3 (h19 M ks f1 f2 x 4 c) (o19 4))).map (fun r => (r.1, r.2.obl, r.2.next, keepL ks100 r.2.heap.get 0)) = some (.tuple #[row16 (tgL U T ks f2 x M 4), .int .i64 0], p19 U T M 4, (h19 M ks f1 f2 x 4 c ++ List.replicate 97 none).length, h19 M ks f1 f2 x 4 c ++ List.replicate 97 none) := by kernel_rfl
theorem run19_5 (U : UX) (T : CT) (M : List Int) (ks f1 f2 x : Nat -> Int) (c : Nat) : ((mk Try.prog (K0W U T) 200).call 19 [P0 2 0] (smSt 3 (h19 M ks f1 f2 x 5 c) (o19 5))).map (fun r => (r.1, r.2.obl, r.2.next, keepL ks100 r.2.heap.get 0)) = some (.tuple #[row16 (tgL U T ks f2 x M 5), .int .i64 0], p19 U T M 5, (h19 M ks f1 f2 x 5 c ++ List.replicate 97 none).length, h19 M ks f1 f2 x 5 c ++ List.replicate 97 none) := by kernel_rfl
theorem run19_6 (U : UX) (T : CT) (M : List Int) (ks f1 f2 x : Nat -> Int) (c : Nat) : ((mk Try.prog (K0W U T) 200).call 19 [P0 2 0] (smSt 3 (h19 M ks f1 f2 x 6 c) (o19 6))).map (fun r => (r.1, r.2.obl, r.2.next, keepL ks100 r.2.heap.get 0)) = some (.tuple #[row16 (tgL U T ks f2 x M 6), .int .i64 0], p19 U T M 6, (h19 M ks f1 f2 x 6 c ++ List.replicate 97 none).length, h19 M ks f1 f2 x 6 c ++ List.replicate 97 none) := by kernel_rfl
theorem run19_7 (U : UX) (T : CT) (M : List Int) (ks f1 f2 x : Nat -> Int) (c : Nat) : ((mk Try.prog (K0W U T) 200).call 19 [P0 2 0] (smSt 3 (h19 M ks f1 f2 x 7 c) (o19 7))).map (fun r => (r.1, r.2.obl, r.2.next, keepL ks100 r.2.heap.get 0)) = some (.tuple #[row16 (tgL U T ks f2 x M 7), .int .i64 0], p19 U T M 7, (h19 M ks f1 f2 x 7 c ++ List.replicate 97 none).length, h19 M ks f1 f2 x 7 c ++ List.replicate 97 none) := by kernel_rfl
theorem run19_8 (U : UX) (T : CT) (M : List Int) (ks f1 f2 x : Nat -> Int) (c : Nat) : ((mk Try.prog (K0W U T) 200).call 19 [P0 2 0] (smSt 3 (h19 M ks f1 f2 x 8 c) (o19 8))).map (fun r => (r.1, r.2.obl, r.2.next, keepL ks100 r.2.heap.get 0)) = some (.tuple #[row16 (tgL U T ks f2 x M 8), .int .i64 0], p19 U T M 8, (h19 M ks f1 f2 x 8 c ++ List.replicate 97 none).length, h19 M ks f1 f2 x 8 c ++ List.replicate 97 none) := by kernel_rfl
theorem run19_9 (U : UX) (T : CT) (M : List Int) (ks f1 f2 x : Nat -> Int) (c : Nat) : ((mk Try.prog (K0W U T) 200).call 19 [P0 2 0] (smSt 3 (h19 M ks f1 f2 x 9 c) (o19 9))).map (fun r => (r.1, r.2.obl, r.2.next, keepL ks100 r.2.heap.get 0)) = some (.tuple #[row16 (tgL U T ks f2 x M 9), .int .i64 0], p19 U T M 9, (h19 M ks f1 f2 x 9 c ++ List.replicate 97 none).length, h19 M ks f1 f2 x 9 c ++ List.replicate 97 none) := by kernel_rfl
theorem run19_10 (U : UX) (T : CT) (M : List Int) (ks f1 f2 x : Nat -> Int) (c : Nat) : ((mk Try.prog (K0W U T) 200).call 19 [P0 2 0] (smSt 3 (h19 M ks f1 f2 x 10 c) (o19 10))).map (fun r => (r.1, r.2.obl, r.2.next, keepL ks100 r.2.heap.get 0)) = some (.tuple #[row16 (tgL U T ks f2 x M 10), .int .i64 0], p19 U T M 10, (h19 M ks f1 f2 x 10 c ++ List.replicate 97 none).length, h19 M ks f1 f2 x 10 c ++ List.replicate 97 none) := by kernel_rfl
theorem run19_11 (U : UX) (T : CT) (M : List Int) (ks f1 f2 x : Nat -> Int) (c : Nat) : ((mk Try.prog (K0W U T) 200).call 19 [P0 2 0] (smSt 3 (h19 M ks f1 f2 x 11 c) (o19 11))).map (fun r => (r.1, r.2.obl, r.2.next, keepL ks100 r.2.heap.get 0)) = some (.tuple #[row16 (tgL U T ks f2 x M 11), .int .i64 0], p19 U T M 11, (h19 M ks f1 f2 x 11 c ++ List.replicate 97 none).length, h19 M ks f1 f2 x 11 c ++ List.replicate 97 none) := by kernel_rfl
theorem run19_12 (U : UX) (T : CT) (M : List Int) (ks f1 f2 x : Nat -> Int) (c : Nat) : ((mk Try.prog (K0W U T) 200).call 19 [P0 2 0] (smSt 3 (h19 M ks f1 f2 x 12 c) (o19 12))).map (fun r => (r.1, r.2.obl, r.2.next, keepL ks100 r.2.heap.get 0)) = some (.tuple #[row16 (tgL U T ks f2 x M 12), .int .i64 0], p19 U T M 12, (h19 M ks f1 f2 x 12 c ++ List.replicate 97 none).length, h19 M ks f1 f2 x 12 c ++ List.replicate 97 none) := by kernel_rfl
theorem run19_13 (U : UX) (T : CT) (M : List Int) (ks f1 f2 x : Nat -> Int) (c : Nat) : ((mk Try.prog (K0W U T) 200).call 19 [P0 2 0] (smSt 3 (h19 M ks f1 f2 x 13 c) (o19 13))).map (fun r => (r.1, r.2.obl, r.2.next, keepL ks100 r.2.heap.get 0)) = some (.tuple #[row16 (tgL U T ks f2 x M 13), .int .i64 0], p19 U T M 13, (h19 M ks f1 f2 x 13 c ++ List.replicate 97 none).length, h19 M ks f1 f2 x 13 c ++ List.replicate 97 none) := by kernel_rfl
theorem run19_14 (U : UX) (T : CT) (M : List Int) (ks f1 f2 x : Nat -> Int) (c : Nat) : ((mk Try.prog (K0W U T) 200).call 19 [P0 2 0] (smSt 3 (h19 M ks f1 f2 x 14 c) (o19 14))).map (fun r => (r.1, r.2.obl, r.2.next, keepL ks100 r.2.heap.get 0)) = some (.tuple #[row16 (tgL U T ks f2 x M 14), .int .i64 0], p19 U T M 14, (h19 M ks f1 f2 x 14 c ++ List.replicate 97 none).length, h19 M ks f1 f2 x 14 c ++ List.replicate 97 none) := by kernel_rfl
theorem run19_15 (U : UX) (T : CT) (M : List Int) (ks f1 f2 x : Nat -> Int) (c : Nat) : ((mk Try.prog (K0W U T) 200).call 19 [P0 2 0] (smSt 3 (h19 M ks f1 f2 x 15 c) (o19 15))).map (fun r => (r.1, r.2.obl, r.2.next, keepL ks100 r.2.heap.get 0)) = some (.tuple #[row16 (tgL U T ks f2 x M 15), .int .i64 0], p19 U T M 15, (h19 M ks f1 f2 x 15 c ++ List.replicate 97 none).length, h19 M ks f1 f2 x 15 c ++ List.replicate 97 none) := by kernel_rfl
theorem run19_16 (U : UX) (T : CT) (M : List Int) (ks f1 f2 x : Nat -> Int) (c : Nat) : ((mk Try.prog (K0W U T) 200).call 19 [P0 2 0] (smSt 3 (h19 M ks f1 f2 x 16 c) (o19 16))).map (fun r => (r.1, r.2.obl, r.2.next, keepL ks100 r.2.heap.get 0)) = some (.tuple #[row16 (tgL U T ks f1 x M 16), .int .i64 0], p19 U T M 16, (h19 M ks f1 f2 x 16 c ++ List.replicate 97 none).length, h19 M ks f1 f2 x 16 c ++ List.replicate 97 none) := by kernel_rfl
theorem run19_0 (U : UX) (T : CT) (ks f1 f2 x : Nat -> Int) : ((mk Try.prog (K0W U T) 200).call 19 [P0 1 0] (smSt 2 (h19z ks f1 f2 x) [])).map (fun r => (r.1, r.2.obl, r.2.next, keepL ks99 r.2.heap.get 0)) = some (.tuple #[row16 (tgL U T ks f2 x [] 0), .int .i64 0], p19 U T [] 0, (h19z ks f1 f2 x ++ List.replicate 97 none).length, h19z ks f1 f2 x ++ List.replicate 97 none) := by kernel_rfl
theorem pRd_ok {M : List Int} : ∀ r, r <= M.length -> pRd M r
 | 0, _ => trivial
 | r + 1, h => ⟨pRd_ok r (by omega), by omega⟩
def by' (f1 f2 : Nat -> Int) (r : Nat) : Nat -> Int := if r = 16 then f1 else f2
theorem tag_ok (M : List Int) (ks f1 f2 x : Nat -> Int) (r c : Nat) (h0 : 0 < r) (h1 : r <= 16) (hM : r <= M.length) : CallOk Try.prog 19 [P0 2 0] (smSt 3 (h19 M ks f1 f2 x r c) []) (.tuple #[row16 (tgL U0 CT0 ks (by' f1 f2 r) x M r), .int .i64 0]) (smSt 3 (h19 M ks f1 f2 x r c ++ List.replicate 97 none) []) := by
 have hp : p19 U0 CT0 M r := ⟨⟨⟨pRd_ok r hM, rfl⟩, rfl⟩, rfl⟩
 have : r = 1 ∨ r = 2 ∨ r = 3 ∨ r = 4 ∨ r = 5 ∨ r = 6 ∨ r = 7 ∨ r = 8 ∨ r = 9 ∨ r = 10 ∨ r = 11 ∨ r = 12 ∨ r = 13 ∨ r = 14 ∨ r = 15 ∨ r = 16 := by omega
 rcases this with rfl | rfl | rfl | rfl | rfl | rfl | rfl | rfl | rfl | rfl | rfl | rfl | rfl | rfl | rfl | rfl
 ·exact frame_by pg (K0W_ok U0 CT0) _ (run19_1 U0 CT0 M ks f1 f2 x c) hp (by rfl) rfl
 ·exact frame_by pg (K0W_ok U0 CT0) _ (run19_2 U0 CT0 M ks f1 f2 x c) hp (by rfl) rfl
 ·exact frame_by pg (K0W_ok U0 CT0) _ (run19_3 U0 CT0 M ks f1 f2 x c) hp (by rfl) rfl
 ·exact frame_by pg (K0W_ok U0 CT0) _ (run19_4 U0 CT0 M ks f1 f2 x c) hp (by rfl) rfl
 ·exact frame_by pg (K0W_ok U0 CT0) _ (run19_5 U0 CT0 M ks f1 f2 x c) hp (by rfl) rfl
 ·exact frame_by pg (K0W_ok U0 CT0) _ (run19_6 U0 CT0 M ks f1 f2 x c) hp (by rfl) rfl
 ·exact frame_by pg (K0W_ok U0 CT0) _ (run19_7 U0 CT0 M ks f1 f2 x c) hp (by rfl) rfl
 ·exact frame_by pg (K0W_ok U0 CT0) _ (run19_8 U0 CT0 M ks f1 f2 x c) hp (by rfl) rfl
 ·exact frame_by pg (K0W_ok U0 CT0) _ (run19_9 U0 CT0 M ks f1 f2 x c) hp (by rfl) rfl
 ·exact frame_by pg (K0W_ok U0 CT0) _ (run19_10 U0 CT0 M ks f1 f2 x c) hp (by rfl) rfl
 ·exact frame_by pg (K0W_ok U0 CT0) _ (run19_11 U0 CT0 M ks f1 f2 x c) hp (by rfl) rfl
 ·exact frame_by pg (K0W_ok U0 CT0) _ (run19_12 U0 CT0 M ks f1 f2 x c) hp (by rfl) rfl
 ·exact frame_by pg (K0W_ok U0 CT0) _ (run19_13 U0 CT0 M ks f1 f2 x c) hp (by rfl) rfl
 ·exact frame_by pg (K0W_ok U0 CT0) _ (run19_14 U0 CT0 M ks f1 f2 x c) hp (by rfl) rfl
 ·exact frame_by pg (K0W_ok U0 CT0) _ (run19_15 U0 CT0 M ks f1 f2 x c) hp (by rfl) rfl
 ·exact frame_by pg (K0W_ok U0 CT0) _ (run19_16 U0 CT0 M ks f1 f2 x c) hp (by rfl) rfl
theorem tag0_ok (ks f1 f2 x : Nat -> Int) : CallOk Try.prog 19 [P0 1 0] (smSt 2 (h19z ks f1 f2 x) []) (.tuple #[row16 (tgL U0 CT0 ks f2 x [] 0), .int .i64 0]) (smSt 2 (h19z ks f1 f2 x ++ List.replicate 97 none) []) :=
 frame_by pg (K0W_ok U0 CT0) _ (run19_0 U0 CT0 ks f1 f2 x) ⟨⟨⟨trivial, rfl⟩, rfl⟩, rfl⟩ (by rfl) rfl
structure VT where
 ks : List Int -> Nat -> Int
 fs : List Int -> Nat -> Int
 sn : List Int -> Nat -> Int
 wx : LV -> LV -> List Int -> Nat -> Int
 o : Nat -> Nat
 r : Nat -> Nat
 tg : LV -> LV -> LV -> LV -> List Int -> Nat -> Nat -> Int
 ok : List Int -> Prop
def VT0 : VT := ⟨ksK, fst, snd, fun k x L => wch (intAt k) L ((L.length - 1) / 16) 0 (intAt x), fun n => 16 * ((n - 1) / 16), fun n => n - 16 * ((n - 1) / 16), fun k f1 f2 x M r => tgL U0 CT0 (intAt k) (by' (intAt f1) (intAt f2) r) (intAt x) M r, OkK⟩
def okC (l : LV) : Bool := isN 176 (l.take 176).toArray && (match l.drop 176 with | [.bool true] => true | _ => false)
theorem list_isN {n : Nat} {l : LV} (h : isN n (l.take n).toArray = true) : l.take n = rowV .u8 n (intAt (l.take n)) := by
 have := congrArg Array.toList (isN_row h)
 simpa using this
theorem okC_eq {l : LV} (h : okC l = true) : l = rowV .u8 176 (intAt (l.take 176)) ++ [.bool true] := by
 unfold okC at h
 rw [Bool.and_eq_true] at h
 obtain ⟨h1, h2⟩ := h
 split at h2
 ·rename_i hd
  conv => lhs; rw [← List.take_append_drop 176 l, hd, list_isN h1]
 ·cases h2
theorem row_flat0 {n : Nat} {f : Nat -> Int} : (rowV .u8 n f).all flat0 = true := List.all_eq_true.2 fun v hv => by
 unfold rowV at hv
 rw [famList_eq] at hv
 obtain ⟨j, _, rfl⟩ := List.mem_map.1 hv
 rfl
theorem isN_flat0 {n : Nat} {l : LV} (h : isN n (l.take n).toArray = true) : (l.take n).all flat0 = true := by rw [list_isN h]; exact row_flat0
theorem okC_flat0 {l : LV} (h : okC l = true) : l.all flat0 = true := by
 rw [okC_eq h, List.all_append, row_flat0]; rfl
theorem fit_obj' {ν δ : Nat -> Nat} {m : Nat} {P p V v : Value} {l : LV} (hp : P = mv ν δ p) (op : okN m p = true) (hl : l.all flat0 = true) (hv : V = mv ν δ v) (ov : okN m v = true) :
  ∀ (x : Nat) (w : Value), (Cells.lit (p :: (l ++ [v]))).get x = some w -> ∃ W, (Cells.lit (P :: (l ++ [V]))).get (0 + x) = some W /\ W = mv ν δ w /\ okN m w = true := fun x w hw => by
 rw [Nat.zero_add]
 rcases x with _ | x
 ·simp only [Cells.get, List.getElem?_cons_zero, Option.some.injEq] at hw ⊢
  subst hw; exact ⟨P, rfl, hp, op⟩
 ·simp only [Cells.get, List.getElem?_cons_succ] at hw ⊢
  rcases Nat.lt_or_ge x l.length with h | h
  ·rw [List.getElem?_append_left h] at hw ⊢
   have hf := List.all_eq_true.1 hl w (List.mem_of_getElem? hw)
   exact ⟨w, hw, (mv_flat0 ν δ hf).symm, okN_flat0 m hf⟩
  ·rw [List.getElem?_append_right h] at hw ⊢
   cases hx : x - l.length with
   | zero =>
    rw [hx] at hw
    simp only [List.getElem?_cons_zero, Option.some.injEq] at hw
    subst hw; exact ⟨V, rfl, hv, ov⟩
   | succ k => rw [hx] at hw; simp at hw
theorem fit_same {L : LV} {m : Nat} {ν δ : Nat -> Nat} (hl : L.all flat0 = true) :
  ∀ (x : Nat) (v : Value), (Cells.lit L).get x = some v -> ∃ V, (Cells.lit L).get (0 + x) = some V /\ V = mv ν δ v /\ okN m v = true := fit_flat (fun x v hv => by rw [Nat.zero_add]; exact hv) hl
theorem fit_whole' {k : IntKind} {L : List Int} {m : Nat} {ν δ : Nat -> Nat} :
  ∀ (x : Nat) (v : Value), (Cells.ints k L).get x = some v -> ∃ V, (Cells.ints k L).get (0 + x) = some V /\ V = mv ν δ v /\ okN m v = true := fun x v hv => by
 rw [Nat.zero_add]
 simp only [Cells.get, Option.map_eq_some_iff] at hv ⊢
 obtain ⟨a, ha, rfl⟩ := hv
 exact ⟨.int k a, ⟨a, ha, rfl⟩, rfl, rfl⟩
def oC (l : LV) : Option Ob := some (.cells (.lit l) 84)
def oMc (l : LV) : Option Ob := some (.cells (.lit l) 70)
def oI (L : List Int) : Option Ob := some (.cells (.ints .u8 L) 5)
def F17 (T : VT) (args : List Value) (s : St) : Option Inst := match args with
 | [.slice (some ⟨b, o, g⟩) 16 c] => if gOk g then (match s.heap.get b with
  | some (.cells (.ints .u8 K) _) => some ⟨[(b, o)], 1, hK ((K.drop o).take 16), [sl 0 0 g 16 c], .tuple #[P0 92 0, .int .i64 0], hNw ((K.drop o).take 16) (T.ks ((K.drop o).take 16)) (T.fs ((K.drop o).take 16)) (T.sn ((K.drop o).take 16)), T = VT0 /\ T.ok ((K.drop o).take 16)⟩
  | _ => none) else none
 | _ => none
def F19 (T : VT) (args : List Value) (s : St) : Option Inst := match args with
 | [.pointer (some ⟨m, 0, none⟩)] => (match s.heap.get m with
  | some (.cells (.lit (.pointer (some ⟨ci, 0, none⟩) :: l)) _) => (match s.heap.get ci with
   | some (.cells (.lit lc) _) => if okC lc && isN 48 (l.take 48).toArray then (match l.drop 48 with
    | [.slice (some ⟨z, 0, some 1⟩) n c] => (match s.heap.get z with
     | some (.cells (.ints .u8 M) _) => some ⟨[(z, 0), (ci, 0), (m, 0)], 3, [oI M, oC lc, oMc (P0 1 0 :: (l.take 48 ++ [sl 0 0 (some 1) n c]))], [P0 2 0], .tuple #[row16 (T.tg (lc.take 176) ((l.take 48).take 16) (((l.take 48).drop 16).take 16) ((l.take 48).drop 32) M n), .int .i64 0],
       [oI M, oC lc, oMc (P0 1 0 :: (l.take 48 ++ [sl 0 0 (some 1) n c]))] ++ List.replicate 97 none, T = VT0 /\ 0 < n /\ n <= 16 /\ n <= M.length⟩
     | _ => none)
    | [.slice none 0 0] => some ⟨[(ci, 0), (m, 0)], 2, [oC lc, oMc (P0 0 0 :: (l.take 48 ++ [.slice none 0 0]))], [P0 1 0], .tuple #[row16 (T.tg (lc.take 176) ((l.take 48).take 16) (((l.take 48).drop 16).take 16) ((l.take 48).drop 32) [] 0), .int .i64 0],
       [oC lc, oMc (P0 0 0 :: (l.take 48 ++ [.slice none 0 0]))] ++ List.replicate 97 none, T = VT0⟩
    | _ => none) else none
   | _ => none)
  | _ => none)
 | _ => none
attribute [local irreducible] hNw in
theorem F17_ok (T : VT) (args : List Value) (s : St) (i : Inst) (h : F17 T args s = some i) : Fits s i args /\ (i.ask -> CallOk Try.prog 17 i.args i.s0 i.val i.s1) := by
 unfold F17 at h
 split at h
 ·rename_i b o g c
  split at h
  ·rename_i hg
   split at h
   ·rename_i K tb hb
    cases h
    refine ⟨fit_win hb rfl rfl rfl rfl (gOk_abs hg), fun hT => ?_⟩
    obtain ⟨rfl, hk⟩ := hT
    exact new_ok _ c g (gOk_iff hg) hk
   ·cases h
  ·cases h
 ·cases h
theorem cat48 {l : LV} {v : Value} (h : l.drop 48 = [v]) : l = l.take 48 ++ [v] := by
 conv => lhs; rw [← List.take_append_drop 48 l, h]
theorem parts48 {l : LV} (h : isN 48 (l.take 48).toArray = true) :
  ∃ a b c : Nat -> Int, (l.take 48).take 16 = R16 a /\ ((l.take 48).drop 16).take 16 = R16 b /\ (l.take 48).drop 32 = R16 c /\ l.take 48 = R16 a ++ (R16 b ++ R16 c) /\ (l.take 48).take 32 = R16 a ++ R16 b /\
   intAt ((l.take 48).take 16) = a /\ intAt (((l.take 48).drop 16).take 16) = b /\ intAt ((l.take 48).drop 32) = c := by
 generalize hx : l.take 48 = x at h ⊢
 have hk : x.all (isKind .u8) = true := by
  unfold isN at h
  rw [Bool.and_eq_true] at h
  exact h.2
 have hl : x.length = 48 := by
  unfold isN at h
  rw [Bool.and_eq_true, decide_eq_true_eq] at h
  exact h.1
 have al : ∀ y : LV, (∀ v, v ∈ y -> v ∈ x) -> y.all (isKind .u8) = true := fun y hy => List.all_eq_true.2 fun v hv => List.all_eq_true.1 hk v (hy v hv)
 have e1 : x.take 16 = R16 (intAt (x.take 16)) := (rowV_of (by simp [hl]) (al _ fun v hv => List.mem_of_mem_take hv)).symm
 have e2 : (x.drop 16).take 16 = R16 (intAt ((x.drop 16).take 16)) := (rowV_of (by simp [hl]) (al _ fun v hv => List.mem_of_mem_drop (List.mem_of_mem_take hv))).symm
 have e3 : x.drop 32 = R16 (intAt (x.drop 32)) := (rowV_of (by simp [hl]) (al _ fun v hv => List.mem_of_mem_drop hv)).symm
 have d : x.drop 32 = (x.drop 16).drop 16 := by rw [List.drop_drop]
 have t : x.take 32 = x.take 16 ++ (x.drop 16).take 16 := by rw [← List.take_add]
 refine ⟨_, _, _, e1, e2, e3, ?_, ?_, rfl, rfl, rfl⟩
 ·rw [← e1, ← e2, ← e3, d, List.take_append_drop, List.take_append_drop]
 ·rw [← e1, ← e2]; exact t
theorem tagL {lc l : LV} (h1 : okC lc = true) (h2 : isN 48 (l.take 48).toArray = true) (M : List Int) (n c : Nat) (g0 : 0 < n) (g1 : n <= 16) (g2 : n <= M.length) :
  CallOk Try.prog 19 [P0 2 0] (smSt 3 [oI M, oC lc, oMc (P0 1 0 :: (l.take 48 ++ [sl 0 0 (some 1) n c]))] []) (.tuple #[row16 (VT0.tg (lc.take 176) ((l.take 48).take 16) (((l.take 48).drop 16).take 16) ((l.take 48).drop 32) M n), .int .i64 0]) (smSt 3 ([oI M, oC lc, oMc (P0 1 0 :: (l.take 48 ++ [sl 0 0 (some 1) n c]))] ++ List.replicate 97 none) []) := by
 obtain ⟨a, bb, cx, p1, p2, p3, p4, p5, i1, i2, i3⟩ := parts48 h2
 have w := tag_ok M (intAt (lc.take 176)) a bb cx n c g0 g1 g2
 unfold h19 at w
 rw [← okC_eq h1] at w
 have ew : VT0.tg (lc.take 176) ((l.take 48).take 16) (((l.take 48).drop 16).take 16) ((l.take 48).drop 32) M n = tgL U0 CT0 (intAt (lc.take 176)) (by' a bb n) cx M n := by
  show tgL U0 CT0 (intAt (lc.take 176)) (by' (intAt ((l.take 48).take 16)) (intAt (((l.take 48).drop 16).take 16)) n) (intAt ((l.take 48).drop 32)) M n = _
  rw [i1, i2, i3]
 rw [ew, p4, List.append_assoc, List.append_assoc]
 exact w
theorem tagZ {lc l : LV} (h1 : okC lc = true) (h2 : isN 48 (l.take 48).toArray = true) :
  CallOk Try.prog 19 [P0 1 0] (smSt 2 [oC lc, oMc (P0 0 0 :: (l.take 48 ++ [.slice none 0 0]))] []) (.tuple #[row16 (VT0.tg (lc.take 176) ((l.take 48).take 16) (((l.take 48).drop 16).take 16) ((l.take 48).drop 32) [] 0), .int .i64 0]) (smSt 2 ([oC lc, oMc (P0 0 0 :: (l.take 48 ++ [.slice none 0 0]))] ++ List.replicate 97 none) []) := by
 obtain ⟨a, bb, cx, p1, p2, p3, p4, p5, i1, i2, i3⟩ := parts48 h2
 have w := tag0_ok (intAt (lc.take 176)) a bb cx
 unfold h19z at w
 rw [← okC_eq h1] at w
 have eb : by' a bb 0 = bb := if_neg (by decide)
 have ew : VT0.tg (lc.take 176) ((l.take 48).take 16) (((l.take 48).drop 16).take 16) ((l.take 48).drop 32) [] 0 = tgL U0 CT0 (intAt (lc.take 176)) bb cx [] 0 := by
  show tgL U0 CT0 (intAt (lc.take 176)) (by' (intAt ((l.take 48).take 16)) (intAt (((l.take 48).drop 16).take 16)) 0) (intAt ((l.take 48).drop 32)) [] 0 = _
  rw [i1, i2, i3, eb]
 rw [ew, p4, List.append_assoc, List.append_assoc]
 exact w
theorem F19_ok (T : VT) (args : List Value) (s : St) (i : Inst) (h : F19 T args s = some i) : Fits s i args /\ (i.ask -> CallOk Try.prog 19 i.args i.s0 i.val i.s1) := by
 unfold F19 at h
 split at h
 ·rename_i m
  split at h
  ·rename_i ci l tm hm
   split at h
   ·rename_i lc tc hci
    split at h
    ·rename_i hc
     rw [Bool.and_eq_true] at hc
     obtain ⟨a, bb, cx, p1, p2, p3, p4, p5, i1, i2, i3⟩ := parts48 hc.2
     split at h
     ·rename_i z n c hd
      have el := cat48 hd
      split at h
      ·rename_i M tz hz
       cases h
       refine ⟨⟨?_, fun j pp ob h1 h2 => ?_⟩, fun hT => ?_⟩
       ·show [Value.pointer (some ⟨m, 0, none⟩)] = [Value.pointer (some ⟨m, addO 0 0, none⟩)]
        rw [addO_eq]
       ·rcases j with _ | _ | _ | j
        ·simp only [List.getElem?_cons_zero, Option.some.injEq] at h1
         simp only [oI, List.getElem?_cons_zero, Option.some.injEq] at h2
         subst h1; subst h2
         exact ⟨_, hz, fit_whole'⟩
        ·simp only [Nat.zero_add, List.getElem?_cons_succ, List.getElem?_cons_zero, Option.some.injEq] at h1
         simp only [oC, Nat.zero_add, List.getElem?_cons_succ, List.getElem?_cons_zero, Option.some.injEq] at h2
         subst h1; subst h2
         exact ⟨_, hci, fit_same (okC_flat0 hc.1)⟩
        ·simp only [Nat.zero_add, Nat.reduceAdd, List.getElem?_cons_succ, List.getElem?_cons_zero, Option.some.injEq] at h1
         simp only [oMc, Nat.zero_add, Nat.reduceAdd, List.getElem?_cons_succ, List.getElem?_cons_zero, Option.some.injEq] at h2
         subst h1; subst h2
         rw [el] at hm
         refine ⟨_, hm, fit_obj' ?_ rfl (isN_flat0 hc.2) ?_ rfl⟩
         ·show Value.pointer (some ⟨ci, 0, none⟩) = Value.pointer (some ⟨ci, addO 0 0, none⟩)
          rw [addO_eq]
         ·show Value.slice (some ⟨z, 0, some 1⟩) n c = Value.slice (some ⟨z, addO 0 0, some 1⟩) n c
          rw [addO_eq]
        ·simp at h1
       ·obtain ⟨rfl, h0, h1, h2⟩ := hT
        exact tagL hc.1 hc.2 M n c h0 h1 h2
      ·cases h
     ·rename_i hd
      have el := cat48 hd
      cases h
      refine ⟨⟨?_, fun j pp ob h1 h2 => ?_⟩, fun hT => ?_⟩
      ·show [Value.pointer (some ⟨m, 0, none⟩)] = [Value.pointer (some ⟨m, addO 0 0, none⟩)]
       rw [addO_eq]
      ·rcases j with _ | _ | j
       ·simp only [List.getElem?_cons_zero, Option.some.injEq] at h1
        simp only [oC, List.getElem?_cons_zero, Option.some.injEq] at h2
        subst h1; subst h2
        exact ⟨_, hci, fit_same (okC_flat0 hc.1)⟩
       ·simp only [Nat.zero_add, List.getElem?_cons_succ, List.getElem?_cons_zero, Option.some.injEq] at h1
        simp only [oMc, Nat.zero_add, List.getElem?_cons_succ, List.getElem?_cons_zero, Option.some.injEq] at h2
        subst h1; subst h2
        rw [el] at hm
        refine ⟨_, hm, fit_obj' ?_ rfl (isN_flat0 hc.2) rfl rfl⟩
        show Value.pointer (some ⟨ci, 0, none⟩) = Value.pointer (some ⟨ci, addO 0 0, none⟩)
        rw [addO_eq]
       ·simp at h1
      ·cases hT
       exact tagZ hc.1 hc.2
     ·cases h
    ·cases h
   ·cases h
  ·cases h
 ·cases h
def pt (g : Option Nat) (n d : Nat) : Option Ob := some (.cells (.lit [sl 2 0 g n d]) 22)
def hT (K : List Int) (g : Option Nat) (n d : Nat) (M : List Int) : List (Option Ob) := [oI K, pt g n d, oI M]
def hTz (K : List Int) (g : Option Nat) (d : Nat) : List (Option Ob) := [oI K, pt g 0 d, none]
def kW (K : List Int) : List Int := (K.drop 0).take 16
def Z0 : Nat -> Int := fun _ => 0
def blk (A : List Int) (o j : Nat) : Int := A.getD (o + j) 0
def chn (K A : List Int) : Nat -> Nat -> Int
 | 0 => Z0
 | q + 1 => enc K (keyF (chn K A q) (blk A (16 * q)))
def qO (n : Nat) : Nat := 16 * ((n - 1) / 16)
def qR (n : Nat) : Nat := n - 16 * ((n - 1) / 16)
def tagF (K M : List Int) : Nat -> Int := enc K (keyF (chn K M ((M.length - 1) / 16)) (keyF (lst ((M.drop (qO M.length)).take (qR M.length)) (qR M.length)) (by' (fst K) (snd K) (qR M.length))))
theorem bRow_eq (A : List Int) (o : Nat) : bRow A o = R16 (blk A o) := by
 unfold bRow R16 rowV
 rw [famList_eq, famList_eq]
 refine List.map_congr_left fun j _ => ?_
 show Value.int .u8 (A.getD (o + j) 0) = Value.int .u8 (A.getD (o + (0 + j)) 0)
 rw [Nat.zero_add]
theorem keyF_congr {a a' b b' : Nat -> Int} {j : Nat} (h : a j = a' j) (g : b j = b' j) : keyF a b j = keyF a' b' j := by unfold keyF; rw [h, g]
theorem chx_eq (ks x : Nat -> Int) (A : List Int) (o : Nat) {j : Nat} (hj : j < 16) : chx U0 CT0 ks x A o j = mkF BOX ks (keyF x (blk A o)) j := by
 show mkF BOX (intAt (R176 ks)) (intAt (R16 (keyF (intAt (R16 x)) (intAt (bRow A o))))) j = _
 refine mkF_congr (fun j hj => at176 hj) (fun j hj => ?_) j hj
 rw [at16 hj, bRow_eq]
 exact keyF_congr (at16 hj) (at16 hj)
theorem tgL_eq {ks ks' f f' x x' : Nat -> Int} (M : List Int) (r : Nat) (hk : ∀ j, j < 176 -> ks j = ks' j) (hf : ∀ j, j < 16 -> f j = f' j) (hx : ∀ j, j < 16 -> x j = x' j) {j : Nat} (hj : j < 16) : tgL U0 CT0 ks f x M r j = mkF BOX ks' (keyF x' (keyF (lst M r) f')) j := by
 show mkF BOX (intAt (R176 ks)) (intAt (R16 (keyF (intAt (R16 x)) (intAt (R16 (keyF (intAt (R16 (lst M r))) (intAt (R16 f)))))))) j = _
 refine mkF_congr (fun j hj => (at176 hj).trans (hk j hj)) (fun j hj => ?_) j hj
 rw [at16 hj]
 refine keyF_congr ((at16 hj).trans (hx j hj)) ?_
 rw [at16 hj]
 exact keyF_congr (at16 hj) ((at16 hj).trans (hf j hj))
theorem kW_eq {K : List Int} (h : K.length = 16) : kW K = K := List.take_of_length_le (by rw [List.drop_zero, h]; exact Nat.le_refl _)
theorem by_congr {f g f' g' : Nat -> Int} (h : ∀ j, j < 16 -> f j = f' j) (h' : ∀ j, j < 16 -> g j = g' j) (r : Nat) {j : Nat} (hj : j < 16) : by' f g r j = by' f' g' r j := by
 unfold by'
 split
 ·exact h j hj
 ·exact h' j hj
end
end ae
end Go.Proofs.Ytkcngffpnnlmeaa
