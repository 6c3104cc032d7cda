/- Contracts of the functions of package sne, and of the document's own answers. -/
import Derived.Test.YtbdkmppfigennaaRows
import Derived.WalkKit
import Derived.WalkSpells
import Derived.WalkLawsBesides
import Derived.Lib.Hide
import Derived.IntWalk
import Derived.BigQuiet
import Derived.Deep.QuietTactic
namespace Go.Proofs.Ytbdkmppfigennaa
open Go.RowKit

theorem right_yes (n : Int) (w : World) (h0 : 0 ≤ n) (h1 : n ≤ 4611686018427387904) :
    Calls Try.prog 18 #[.int .i64 n] w fun e w' => e = .returned (.bool true) ∧ w = w' := by
  go_enter Try.func18, Try.ntmps18
  go_wp2
  go_ret
  exact ⟨rfl, rfl⟩

theorem right_lo (n : Int) (w : World) (h0 : n < 0) :
    Calls Try.prog 18 #[.int .i64 n] w fun e w' => e = .returned (.bool false) ∧ w = w' := by
  have hn : ¬ 0 ≤ n := by omega
  go_enter Try.func18, Try.ntmps18
  go_wp2
  go_ret
  exact ⟨rfl, rfl⟩

theorem right_hi (n : Int) (w : World) (h0 : 4611686018427387904 < n) :
    Calls Try.prog 18 #[.int .i64 n] w fun e w' => e = .returned (.bool false) ∧ w = w' := by
  have hn : ¬ n ≤ 4611686018427387904 := by omega
  have h1 : 0 ≤ n := by omega
  go_enter Try.func18, Try.ntmps18
  go_wp2
  go_ret
  exact ⟨rfl, rfl⟩

/-- how far two numbers are from each other -/
def far (a b : Int) : Int := if a ≤ b then b - a else a - b

theorem ret_int {k : IntKind} {a b : Int} (h : a = b) : Ending.returned (.int k a) = .returned (.int k b) := by rw [h]

theorem away_any (n to : Int) (p : Addr) (w : World) (hc : w.cell? p = some (.int .i64 to)) (h0 : 0 ≤ to) (h1 : to ≤ 4611686018427387904)
    (h2 : -4294967296 ≤ n) (h3 : n ≤ 4611686031312289792) :
    Calls Try.prog 22 #[.int .i64 n, .pointer (some p)] w fun e w' => e = .returned (.int .i64 (far n to)) ∧ w = w' := by
  go_enter Try.func22, Try.ntmps22
  go_wp2
  all_goals go_ret
  all_goals exact ⟨ret_int (by unfold far; split <;> omega), rfl⟩


def base (seq to : Int) : Int := to - to % 4294967296 + seq
def below (seq to : Int) : Int := if 0 ≤ base seq to - 4294967296 ∧ far (base seq to - 4294967296) to < far (base seq to) to then base seq to - 4294967296 else base seq to
def near (seq to : Int) : Int := if far (below seq to + 4294967296) to ≤ far (below seq to) to then below seq to + 4294967296 else below seq to

set_option maxHeartbeats 2000000 in
theorem nearest_any (seq to : Int) (w : World) (hs : 0 ≤ seq) (hs1 : seq < 4294967296) (h0 : 0 ≤ to) (h1 : to ≤ 4611686018427387904) :
    Calls Try.prog 19 #[.int .u32 seq, .int .i64 to] w fun e w' => e = .returned (.int .i64 (near seq to)) ∧ Below w.heap.size w w' := by
  go_enter Try.func19, Try.ntmps19
  go_wp2_with (go_at_call 22; (with_reducible refine (away_any _ to _ _ (by go_simp) h0 h1 (by omega) (by omega)).mono ?_); rintro e w' ⟨rfl, rfl⟩)
  all_goals go_ret
  all_goals refine ⟨ret_int ?_, (Below.refl _ _).alloc (Nat.le_refl _) _⟩
  all_goals (simp only [near, below, base, far] at *; omega)

end Go.Proofs.Ytbdkmppfigennaa
