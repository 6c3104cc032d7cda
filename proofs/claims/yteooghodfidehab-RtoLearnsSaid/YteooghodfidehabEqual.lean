/- What equal samples make of a clock, without a walk; then the walk of the law that learns. -/
import Derived.Test.YteooghodfidehabGives
namespace Go.Proofs.Yteooghodfidehab
open Go.RowKit

/-- how far above, how far below, how wide at most, behind so many samples -/
def upB : Nat → Int
  | 0 => 16000
  | k + 1 => upB k - upB k / 8
def dnB : Nat → Int
  | 0 => 16000
  | k + 1 => dnB k - (dnB k + 7) / 8
def spB : Nat → Int
  | 0 => 262144
  | k + 1 => if 100 ≤ k then spB k - spB k / 4 else spB k

theorem upB_100 : upB 100 ≤ 7 := by decide +kernel
theorem dnB_100 : dnB 100 ≤ 0 := by decide +kernel
theorem spB_200 : spB 200 ≤ 3 := by decide +kernel
theorem upB_late (j : Nat) : upB (100 + j) ≤ 7 := by
  induction j with
  | zero => exact upB_100
  | succ j ih => have : upB (100 + j + 1) = upB (100 + j) - upB (100 + j) / 8 := rfl
                 rw [← Nat.add_assoc, this]; omega
theorem dnB_late (j : Nat) : dnB (100 + j) ≤ 0 := by
  induction j with
  | zero => exact dnB_100
  | succ j ih => have : dnB (100 + j + 1) = dnB (100 + j) - (dnB (100 + j) + 7) / 8 := rfl
                 rw [← Nat.add_assoc, this]; omega
theorem spB_late (j : Nat) : spB (200 + j) ≤ 3 := by
  induction j with
  | zero => exact spB_200
  | succ j ih => have : spB (200 + j + 1) = spB (200 + j) - spB (200 + j) / 4 := by rw [spB, if_pos (by omega)]
                 rw [← Nat.add_assoc, this]; omega
theorem spB_early (k : Nat) (h : k ≤ 100) : spB k = 262144 := by
  induction k with
  | zero => rfl
  | succ k ih => rw [spB, if_neg (by omega)]; exact ih (by omega)

/-- behind k equal samples -/
structure Q (n : Int) (k : Nat) (c : Clk) : Prop where
  q1 : c.any = false → k = 0
  q2 : c.any = true → c.sm - 8 * n ≤ upB k ∧ 8 * n - c.sm ≤ dnB k ∧ c.sp ≤ spB k
  q3 : k ≠ 0 → c.any = true ∧ c.wait = lw c

theorem lw_sample (c : Clk) (t : Int) : (sampleC c t).wait = lw (sampleC c t) ∧ (sampleC c t).any = true := by
  unfold sampleC
  cases ha : c.any <;> exact ⟨rfl, by first | rfl | exact ha⟩

theorem Q.step {n : Int} {k : Nat} {c : Clk} (q : Q n k c) (g : Good c) (h0 : 0 ≤ n) (h1 : n ≤ 2000) : Q n (k + 1) (sampleC c n) := by
  have G := good_sample g h0 (by omega)
  have L := lw_sample c n
  refine ⟨fun h => absurd L.2 (by rw [h]; simp), fun _ => ?_, fun _ => ⟨L.2, L.1⟩⟩
  cases ha : c.any with
  | false =>
    have hk := q.q1 ha
    subst hk
    have E : (sampleC c n).sm = 8 * n ∧ (sampleC c n).sp = 2 * n := by unfold sampleC; rw [ha]; exact ⟨rfl, rfl⟩
    have u : upB 1 = 14000 := by decide
    have d : dnB 1 = 14000 := by decide
    have s : spB 1 = 262144 := spB_early 1 (by omega)
    rw [E.1, E.2, Nat.zero_add, u, d, s]
    omega
  | true =>
    obtain ⟨a1, a2, a3⟩ := q.q2 ha
    have E : (sampleC c n).sm = c.sm + (n - c.sm / 8) ∧ (sampleC c n).sp = c.sp + (absI (n - c.sm / 8) - c.sp / 4) := by unfold sampleC; rw [ha]; exact ⟨rfl, rfl⟩
    have u : upB (k + 1) = upB k - upB k / 8 := rfl
    have d : dnB (k + 1) = dnB k - (dnB k + 7) / 8 := rfl
    refine ⟨by rw [E.1, u]; omega, by rw [E.1, d]; omega, ?_⟩
    by_cases hk : 100 ≤ k
    · obtain ⟨j, rfl⟩ : ∃ j, k = 100 + j := ⟨k - 100, by omega⟩
      have x := upB_late j
      have y := dnB_late j
      have z : n - c.sm / 8 = 0 := by omega
      have s : spB (100 + j + 1) = spB (100 + j) - spB (100 + j) / 4 := by rw [spB, if_pos hk]
      rw [E.2, z, s]
      have : absI 0 = 0 := rfl
      rw [this]
      omega
    · rw [spB_early (k + 1) (by omega)]
      exact G.g10

theorem Q.done {n : Int} {c : Clk} (q : Q n 300 c) (g : Good c) : ∃ v, c.wait = clamp v c.least c.most ∧ n + 1 ≤ v ∧ v ≤ n + 3 := by
  obtain ⟨ha, hw⟩ := q.q3 (by omega)
  obtain ⟨a1, a2, a3⟩ := q.q2 ha
  have x : upB 300 ≤ 7 := upB_late 200
  have y : dnB 300 ≤ 0 := dnB_late 200
  have z : spB 300 ≤ 3 := spB_late 100
  have g9 := g.g9
  refine ⟨_, by rw [hw]; unfold lw; rw [if_pos ha], ?_, ?_⟩
  · split <;> omega
  · split <;> omega

/-- what was learned ahead is not too much -/
def Low (c : Clk) : Prop := c.any = true → c.sm ≤ 16000
theorem low_sample {c : Clk} (h : Low c) {t : Int} (h0 : 0 ≤ t) (h1 : t ≤ 2000) : Low (sampleC c t) := by
  intro _
  cases ha : c.any with
  | false =>
    have E : (sampleC c t).sm = 8 * t := by unfold sampleC; rw [ha]; rfl
    rw [E]; omega
  | true =>
    have := h ha
    have E : (sampleC c t).sm = c.sm + (t - c.sm / 8) := by unfold sampleC; rw [ha]; rfl
    rw [E]; omega
theorem q_zero {c : Clk} (h : Low c) (g : Good c) {n : Int} (h0 : 0 ≤ n) (h1 : n ≤ 2000) : Q n 0 c := by
  have g7 := g.g7
  have g10 := g.g10
  refine ⟨fun _ => rfl, fun ha => ?_, fun h => absurd rfl h⟩
  have := h ha
  have u : upB 0 = 16000 := rfl
  have d : dnB 0 = 16000 := rfl
  have s : spB 0 = 262144 := rfl
  omega


def AfterLow (b : Nat) (c : Clk) (w : World) (e : Ending) (w' : World) : Prop := ∃ c', e = .returned (.int .i64 0) ∧ Ck w' b c' ∧ Good c' ∧ Like c c' ∧ Low c' ∧ Touch b w w'
theorem sample_low (b : Nat) (c : Clk) (t : Int) (w : World) (h : Ck w b c) (g : Good c) (hl : Low c) (h0 : 0 ≤ t) (h1 : t ≤ 2000) :
    Calls Try.prog 16 #[.pointer (some ⟨b, 0, none⟩), .int .i64 t] w (AfterLow b c w) :=
  (sample_any b c t w h g h0 (by omega)).mono fun _ _ ⟨he, hc, ht⟩ => ⟨_, he, hc, good_sample g h0 (by omega), like_sample c t, low_sample hl h0 h1, ht⟩
def AfterQ (b : Nat) (c : Clk) (n : Int) (k : Nat) (w : World) (e : Ending) (w' : World) : Prop := ∃ c', e = .returned (.int .i64 0) ∧ Ck w' b c' ∧ Good c' ∧ Like c c' ∧ Q n (k + 1) c' ∧ Touch b w w'
theorem sample_q (b : Nat) (c : Clk) (n : Int) (k : Nat) (w : World) (h : Ck w b c) (g : Good c) (q : Q n k c) (h0 : 0 ≤ n) (h1 : n ≤ 2000) :
    Calls Try.prog 16 #[.pointer (some ⟨b, 0, none⟩), .int .i64 n] w (AfterQ b c n k w) :=
  (sample_any b c n w h g h0 (by omega)).mono fun _ _ ⟨he, hc, ht⟩ => ⟨_, he, hc, good_sample g h0 (by omega), like_sample c n, q.step g h0 h1, ht⟩

end Go.Proofs.Yteooghodfidehab
