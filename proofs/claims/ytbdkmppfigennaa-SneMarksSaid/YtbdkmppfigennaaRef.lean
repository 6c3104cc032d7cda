/- The document's own answer for the nearest long number, walked. -/
import Derived.Test.YtbdkmppfigennaaCalls
namespace Go.Proofs.Ytbdkmppfigennaa
open Go.RowKit

def rbase (seq to : Int) : Int := to / 4294967296 * 4294967296 + seq

/-- the best one, and how far it is, behind so many rounds -/
def rb (seq to : Int) : Nat → Int × Int
  | 0 => (-1, 0)
  | j + 1 =>
    if 0 ≤ rbase seq to + ((j : Int) - 1) * 4294967296 ∧ ((rb seq to j).1 < 0 ∨ far (rbase seq to + ((j : Int) - 1) * 4294967296) to ≤ (rb seq to j).2)
    then (rbase seq to + ((j : Int) - 1) * 4294967296, far (rbase seq to + ((j : Int) - 1) * 4294967296) to)
    else rb seq to j

theorem rbase_bd (seq to : Int) (hs : 0 ≤ seq) (hs1 : seq < 4294967296) (h0 : 0 ≤ to) (h1 : to ≤ 4611686018427387904) :
    0 ≤ rbase seq to ∧ rbase seq to ≤ 4611686022722355199 ∧ rbase seq to ≤ to + 4294967295 ∧ to - 4294967295 ≤ rbase seq to := by
  unfold rbase; omega

set_option maxHeartbeats 1000000 in
theorem ref_lo (seq to : Int) (w : World) (h0 : to < 0 ∨ 4611686018427387904 < to) :
    Calls Try.prog 8 #[.int .u32 seq, .int .i64 to] w fun e w' => e = .returned (.tuple #[.int .i64 0, .int .i64 2]) ∧ w = w' := by
  rcases h0 with h | h
  · go_enter Try.func8, Try.ntmps8
    go_wp2
    go_ret2
    exact ⟨rfl, rfl⟩
  · have hn : ¬ to < 0 := by omega
    go_enter Try.func8, Try.ntmps8
    go_wp2
    go_ret2
    exact ⟨rfl, rfl⟩

theorem rb_take (seq to n d : Int) (j : Nat) (hn : n = rbase seq to + ((j : Int) - 1) * 4294967296) (hd : d = far n to) (h : 0 ≤ n ∧ ((rb seq to j).1 < 0 ∨ d ≤ (rb seq to j).2)) :
    rb seq to (j + 1) = (n, d) := by
  subst hd; subst hn
  rw [rb, if_pos h]

theorem rb_keep (seq to n d : Int) (j : Nat) (hn : n = rbase seq to + ((j : Int) - 1) * 4294967296) (hd : d = far n to) (h : ¬ (0 ≤ n ∧ ((rb seq to j).1 < 0 ∨ d ≤ (rb seq to j).2))) :
    rb seq to (j + 1) = rb seq to j := by
  subst hd; subst hn
  rw [rb, if_neg h]

theorem vint {k : IntKind} {a b : Int} (h : a = b) : Value.int k a = .int k b := by rw [h]

def Told (r : Int) (e : Ending) : Prop := e = .returned (if 4611686018427387904 < r then .tuple #[.int .i64 0, .int .i64 210] else .tuple #[.int .i64 r, .int .i64 0])

theorem told_hi {r : Int} (h : 4611686018427387904 < r) : Told r (.returned (.tuple #[.int .i64 0, .int .i64 210])) := by unfold Told; rw [if_pos h]
theorem told_lo {r : Int} (h : r ≤ 4611686018427387904) : Told r (.returned (.tuple #[.int .i64 r, .int .i64 0])) := by unfold Told; rw [if_neg (by omega)]

set_option maxHeartbeats 1000000 in
theorem ref_any (seq to : Int) (w : World) (hs : 0 ≤ seq) (hs1 : seq < 4294967296) (h0 : 0 ≤ to) (h1 : to ≤ 4611686018427387904) :
    Calls Try.prog 8 #[.int .u32 seq, .int .i64 to] w fun e w' => Told (rb seq to 3).1 e ∧ w = w' := by
  have hb := rbase_bd seq to hs hs1 h0 h1
  have hn : ¬ to < 0 := by omega
  have hn2 : ¬ 4611686018427387904 < to := by omega
  go_enter Try.func8, Try.ntmps8
  go_wp2
  go_loop [7, 8, 9] (fun b f i => ∃ j : Nat, j ≤ 3 ∧ i = .int .i64 ((j : Int) - 1) ∧ b = .int .i64 (rb seq to j).1 ∧ f = .int .i64 (rb seq to j).2) (fun _ _ i => (2 - intOf i).toNat)
  case atStart => exact ⟨0, by omega, rfl, rfl, rfl⟩
  case round =>
    obtain ⟨j, hj, rfl, rfl, rfl⟩ := hrel
    by_cases hlt : j < 3
    · go_wp2
      all_goals
        go_round
        case rel =>
          refine ⟨j + 1, by omega, vint (by omega), ?_⟩
          first
          | rw [rb_take seq to (to / 4294967296 * 4294967296 + seq + ((j : Int) - 1) * 4294967296) (-(to / 4294967296 * 4294967296 + seq + ((j : Int) - 1) * 4294967296 - to)) j rfl (by unfold far; split <;> omega) (by omega)]; exact ⟨rfl, rfl⟩
          | rw [rb_take seq to (to / 4294967296 * 4294967296 + seq + ((j : Int) - 1) * 4294967296) (to / 4294967296 * 4294967296 + seq + ((j : Int) - 1) * 4294967296 - to) j rfl (by unfold far; split <;> omega) (by omega)]; exact ⟨rfl, rfl⟩
          | rw [rb_keep seq to (to / 4294967296 * 4294967296 + seq + ((j : Int) - 1) * 4294967296) (-(to / 4294967296 * 4294967296 + seq + ((j : Int) - 1) * 4294967296 - to)) j rfl (by unfold far; split <;> omega) (by omega)]; exact ⟨rfl, rfl⟩
          | rw [rb_keep seq to (to / 4294967296 * 4294967296 + seq + ((j : Int) - 1) * 4294967296) (to / 4294967296 * 4294967296 + seq + ((j : Int) - 1) * 4294967296 - to) j rfl (by unfold far; split <;> omega) (by omega)]; exact ⟨rfl, rfl⟩
        case measure => simp [intOf]; omega
    · have H3 := Lib.hid (show j = 3 by omega)
      have hd : (1 : Int) < (j : Int) - 1 := by omega
      by_cases hf : 4611686018427387904 < (rb seq to j).1
      · have F := Lib.hid hf
        go_wp2
        go_ret2
        obtain rfl := H3.out
        exact ⟨told_hi F.out, rfl⟩
      · have F := Lib.hid hf
        go_wp2
        go_ret2
        obtain rfl := H3.out
        exact ⟨told_lo F.out, rfl⟩

theorem rb_1 (seq to b : Int) (e : rbase seq to = b) : rb seq to 1 = if 0 ≤ b - 4294967296 then (b - 4294967296, far (b - 4294967296) to) else (-1, 0) := by
  simp only [rb, e]
  by_cases h : 0 ≤ b - 4294967296
  · rw [if_pos (by omega), if_pos h]; congr 1 <;> (try congr 1) <;> omega
  · rw [if_neg (by omega), if_neg h]

theorem near_rb (seq to : Int) (hs : 0 ≤ seq) (hs1 : seq < 4294967296) (h0 : 0 ≤ to) (h1 : to ≤ 4611686018427387904) : (rb seq to 3).1 = near seq to := by
  have e1 : rbase seq to = base seq to := by unfold rbase base; omega
  have hb : to - 4294967295 ≤ base seq to ∧ base seq to ≤ to + 4294967295 ∧ 0 ≤ base seq to := by unfold base; omega
  have r1 := rb_1 seq to _ e1
  have r2 : rb seq to 2 = if (rb seq to 1).1 < 0 ∨ far (base seq to) to ≤ (rb seq to 1).2 then (base seq to, far (base seq to) to) else rb seq to 1 := by
    by_cases h : (rb seq to 1).1 < 0 ∨ far (base seq to) to ≤ (rb seq to 1).2
    · rw [if_pos h]; exact rb_take seq to _ _ 1 (by rw [e1]; simp) rfl ⟨hb.2.2, h⟩
    · rw [if_neg h]; exact rb_keep seq to (base seq to) _ 1 (by rw [e1]; simp) rfl (fun x => h x.2)
  have r3 : rb seq to 3 = if (rb seq to 2).1 < 0 ∨ far (base seq to + 4294967296) to ≤ (rb seq to 2).2 then (base seq to + 4294967296, far (base seq to + 4294967296) to) else rb seq to 2 := by
    by_cases h : (rb seq to 2).1 < 0 ∨ far (base seq to + 4294967296) to ≤ (rb seq to 2).2
    · rw [if_pos h]; exact rb_take seq to _ _ 2 (by rw [e1]; simp) rfl ⟨by omega, h⟩
    · rw [if_neg h]; exact rb_keep seq to (base seq to + 4294967296) _ 2 (by rw [e1]; simp) rfl (fun x => h x.2)
  unfold near below
  generalize base seq to = b at *
  rw [r3, r2, r1]
  clear r1 r2 r3 e1
  unfold far
  by_cases c1 : 0 ≤ b - 4294967296
  · simp only [if_pos c1]
    split <;> split <;> (try split) <;> (try split) <;> (try split) <;> simp only [] at * <;> omega
  · simp only [if_neg c1]
    split <;> split <;> (try split) <;> (try split) <;> (try split) <;> simp only [] at * <;> omega

end Go.Proofs.Ytbdkmppfigennaa
