/- Contracts of marks: made, looked at, taken. -/
import Derived.Test.YtbdkmppfigennaaMark
namespace Go.Proofs.Ytbdkmppfigennaa
open Go.RowKit

set_option maxHeartbeats 1000000 in
theorem new_any (isn : Int) (w : World) (h0 : 0 ≤ isn) (h1 : isn < 4294967296) :
    Calls Try.prog 11 #[.int .u32 isn] w fun e w' => e = .returned (.pointer (some ⟨w.heap.size, 0, none⟩)) ∧ w.alloc (.cells #[.int .i64 isn, .bool true] 47) = w' := by
  go_enter Try.func11, Try.ntmps11
  go_wp2
  go_ret
  exact ⟨rfl, rfl⟩

theorem told_hi_eq {r : Int} {e : Ending} (h : 4611686018427387904 < r) (t : Told r e) : e = .returned (.tuple #[.int .i64 0, .int .i64 210]) := by unfold Told at t; rw [if_pos h] at t; exact t
theorem told_lo_eq {r : Int} {e : Ending} (h : r ≤ 4611686018427387904) (t : Told r e) : e = .returned (.tuple #[.int .i64 r, .int .i64 0]) := by unfold Told at t; rw [if_neg (by omega)] at t; exact t

set_option maxHeartbeats 1000000 in
theorem look_any (b : Nat) (n seq : Int) (w : World) (h0 : w.cell? ⟨b, 0, none⟩ = some (.int .i64 n)) (h1 : w.cell? ⟨b, 1, none⟩ = some (.bool true))
    (hs : 0 ≤ seq) (hs1 : seq < 4294967296) (hn : 0 ≤ n) (hn1 : n ≤ 4611686018427387904) :
    Calls Try.prog 13 #[.pointer (some ⟨b, 0, none⟩), .int .u32 seq] w fun e w' => Told (near seq n) e ∧ Below w.heap.size w w' := by
  by_cases hf : 4611686018427387904 < near seq n
  · have F := Lib.hid hf
    go_enter Try.func13, Try.ntmps13
    go_wp2_with (first | (go_at_call 20; (with_reducible refine (none_no _ n _ h0 h1).mono ?_); rintro e w' ⟨rfl, rfl⟩) | (go_at_call 7; (with_reducible refine (snear_any _ _ _ hs hs1 hn hn1).mono ?_); rintro e w' ⟨he, hb⟩; obtain rfl := told_hi_eq F.out he; clear he))
    go_ret2
    exact ⟨told_hi F.out, hb⟩
  · have F := Lib.hid (show near seq n ≤ 4611686018427387904 by omega)
    go_enter Try.func13, Try.ntmps13
    go_wp2_with (first | (go_at_call 20; (with_reducible refine (none_no _ n _ h0 h1).mono ?_); rintro e w' ⟨rfl, rfl⟩) | (go_at_call 7; (with_reducible refine (snear_any _ _ _ hs hs1 hn hn1).mono ?_); rintro e w' ⟨he, hb⟩; obtain rfl := told_lo_eq F.out he; clear he))
    go_ret2
    exact ⟨told_lo F.out, hb⟩

set_option maxHeartbeats 1000000 in
theorem take_any (b : Nat) (n seq : Int) (w : World) (hB : b < w.heap.size) (h0 : w.cell? ⟨b, 0, none⟩ = some (.int .i64 n)) (h1 : w.cell? ⟨b, 1, none⟩ = some (.bool true)) (hz : w.frozen? ⟨b, 0, none⟩ = false)
    (hs : 0 ≤ seq) (hs1 : seq < 4294967296) (hn : 0 ≤ n) (hn1 : n ≤ 4611686018427387904) (hf : near seq n ≤ 4611686018427387904) :
    Calls Try.prog 16 #[.pointer (some ⟨b, 0, none⟩), .int .u32 seq] w fun e w' => e = .returned (.tuple #[.int .i64 (near seq n), .int .i64 0]) ∧ ∃ w1, Below w.heap.size w w1 ∧ w' = w1.setCell ⟨b, 0, none⟩ (.int .i64 (if n ≤ near seq n then near seq n else n)) := by
  go_enter Try.func16, Try.ntmps16
  go_wp2
  refine wp_scope_fwd 0 rfl ?_
  go_wp2_with (go_at_call 13; (with_reducible refine (look_any _ _ _ _ h0 h1 hs hs1 hn hn1).mono ?_); rintro e w' ⟨he, hb⟩; obtain rfl := told_lo_eq hf he; clear he; have c0 := ((bcell hb).1 b 0 hB).trans h0; have z0 := ((bcell hb).2 b 0 hB).trans hz)
  all_goals refine jump_ret ?_
  all_goals go_ret2
  · have h := ‹n < near seq n›
    exact ⟨rfl, w', hb, by rw [if_pos (by omega)]⟩
  · have h := ‹near seq n ≤ n›
    refine ⟨rfl, w', hb, ?_⟩
    by_cases hh : n ≤ near seq n
    · rw [if_pos hh, show near seq n = n by omega]
    · rw [if_neg hh]

theorem pval_any (n : Int) (w : World) :
    Calls Try.prog 21 #[.agg #[.int .i64 n, .bool true]] w fun e w' => e = .returned (.int .i64 n) ∧ w.alloc (.cells #[.int .i64 n, .bool true] 45) = w' := by
  go_enter Try.func21, Try.ntmps21
  go_wp2
  go_ret
  exact ⟨rfl, rfl⟩

theorem cell_old {w : World} {o : Obj} {b k : Nat} {v : Value} (h : w.cell? ⟨b, k, none⟩ = some v) (hB : b < w.heap.size) : (w.alloc o).cell? ⟨b, k, none⟩ = some v :=
  (((Below.refl w.heap.size w).alloc (Nat.le_refl _) o).cell (p := ⟨b, k, none⟩) hB).trans h

set_option maxHeartbeats 1000000 in
theorem value_any (b : Nat) (n : Int) (w : World) (hB : b < w.heap.size) (h0 : w.cell? ⟨b, 0, none⟩ = some (.int .i64 n)) (h1 : w.cell? ⟨b, 1, none⟩ = some (.bool true)) :
    Calls Try.prog 14 #[.pointer (some ⟨b, 0, none⟩)] w fun e w' => e = .returned (.int .i64 n) ∧ Below w.heap.size w w' := by
  have c0 := cell_old (o := .cells #[.int .i64 0, .bool false] 45) h0 hB
  have c1 := cell_old (o := .cells #[.int .i64 0, .bool false] 45) h1 hB
  go_enter Try.func14, Try.ntmps14
  go_wp2_with (first | (go_at_call 20; (with_reducible refine (none_no _ n _ c0 c1).mono ?_); rintro e w' ⟨rfl, rfl⟩) | (go_at_call 21; (with_reducible refine (pval_any n _).mono ?_); rintro e w' ⟨rfl, rfl⟩))
  go_ret
  exact ⟨rfl, ((Below.refl _ _).alloc (Nat.le_refl _) _).alloc (by simp) _⟩
end Go.Proofs.Ytbdkmppfigennaa
