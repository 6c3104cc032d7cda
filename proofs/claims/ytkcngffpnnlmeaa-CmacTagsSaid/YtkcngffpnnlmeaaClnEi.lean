/- Read off the code by the clean reading. -/
import Derived.Test.YtkcngffpnnlmeaaClnEg
set_option linter.unusedVariables false
set_option linter.unusedSimpArgs false
set_option linter.deprecated false
set_option maxRecDepth 100000
namespace Go.Proofs.Ytkcngffpnnlmeaa
open Go.ChangeShapes Go.WideShapes Go.ChangeAt Go.RowKit Go.Cln
namespace ae
set_option linter.unusedVariables false
noncomputable section
theorem xorI64 {x y : Nat} (hx : x < 65536) (hy : y < 65536) : xorI .i64 (x : Int) (y : Int) = ((x ^^^ y : Nat) : Int) := by
  have hz : x ^^^ y < 2 ^ 16 := Nat.xor_lt_two_pow (n := 16) hx hy
  unfold xorI
  have e : ∀ z : Nat, z < 65536 → (BitVec.ofInt IntKind.i64.bits (z : Int)).toNat = z := fun z hz => by
    rw [BitVec.toNat_ofInt]
    show ((z : Int) % ((2 ^ 64 : Nat) : Int)).toNat = z
    omega
  rw [BitVec.toNat_xor, e x hx, e y hy, IntKind.wrap_i64]
  omega
theorem beq1 (z : Nat) : ((z : Int) == 1) = Nat.beq z 1 := by
  cases h : Nat.beq z 1 with
  | true =>
    have : z = 1 := Nat.eq_of_beq_eq_true h
    subst this; rfl
  | false =>
    have h1 : z ≠ 1 := Nat.ne_of_beq_eq_false h
    have h2 : ¬ ((z : Int) = 1) := by omega
    simpa using h2
def m1N (a b : Nat) : Nat → Nat
  | 0 => 0
  | i + 1 => bif Nat.beq (b / 2 ^ i % 2) 1 then Nat.xor (m1N a b i) (a * 2 ^ i) else m1N a b i
def m2N (n : Nat) : Nat → Nat
  | 0 => n
  | c + 1 => bif Nat.beq (m2N n c / 2 ^ (14 - c) % 2) 1 then Nat.xor (m2N n c) (283 * 2 ^ (14 - c - 8)) else m2N n c
theorem sft_eq : ∀ i : Fin 16, sft (i.val : Int) = i.val := by decide +kernel
theorem bit1_eq {b : Nat} (hb : b < 256) {i : Nat} (hi : i < 8) : bit1 (b : Int) i = Nat.beq (b / 2 ^ i % 2) 1 := by
  unfold bit1
  rw [sft_eq ⟨i, by omega⟩]
  have e : IntKind.i64.wrap (b : Int) = (b : Int) := by rw [IntKind.wrap_i64]; omega
  rw [e]
  have e2 : ((b : Int).fdiv (2 ^ i)).tmod 2 = ((b / 2 ^ i % 2 : Nat) : Int) := by
    rw [Int.fdiv_eq_ediv_of_nonneg _ (by exact Int.pow_nonneg (by decide))]
    have : (b : Int) / 2 ^ i = ((b / 2 ^ i : Nat) : Int) := by
      rw [Int.natCast_ediv]; simp
    rw [this]
    generalize b / 2 ^ i = z
    rw [Int.tmod_eq_emod_of_nonneg (by omega)]; omega
  rw [e2]; exact beq1 _
theorem bit2_eq {n : Nat} {j : Nat} (hj : j < 16) : bit2 (n : Int) j = Nat.beq (n / 2 ^ j % 2) 1 := by
  unfold bit2
  rw [sft_eq ⟨j, by omega⟩]
  have e2 : ((n : Int).fdiv (2 ^ j)).tmod 2 = ((n / 2 ^ j % 2 : Nat) : Int) := by
    rw [Int.fdiv_eq_ediv_of_nonneg _ (by exact Int.pow_nonneg (by decide))]
    have : (n : Int) / 2 ^ j = ((n / 2 ^ j : Nat) : Int) := by
      rw [Int.natCast_ediv]; simp
    rw [this]
    generalize n / 2 ^ j = z
    rw [Int.tmod_eq_emod_of_nonneg (by omega)]; omega
  rw [e2]; exact beq1 _
theorem pow_le {a i : Nat} (ha : a < 256) (hi : i < 8) : a * 2 ^ i < 65536 := by
  have : 2 ^ i ≤ 2 ^ 7 := Nat.pow_le_pow_right (by decide) (by omega)
  calc a * 2 ^ i ≤ 255 * 2 ^ 7 := Nat.mul_le_mul (by omega) this
    _ < 65536 := by decide
theorem m1_eq {a b : Nat} (ha : a < 256) (hb : b < 256) : ∀ i, i ≤ 8 → m1 (a : Int) (b : Int) i = (m1N a b i : Nat) ∧ m1N a b i < 65536
  | 0, _ => ⟨rfl, by show (0 : Nat) < 65536; decide⟩
  | i + 1, h => by
    obtain ⟨h1, h2⟩ := m1_eq ha hb i (by omega)
    unfold m1 m1N
    rw [bit1_eq hb (show i < 8 by omega)]
    cases Nat.beq (b / 2 ^ i % 2) 1 with
    | false => exact ⟨h1, h2⟩
    | true =>
      have hp := pow_le ha (show i < 8 by omega)
      refine ⟨?_, Nat.xor_lt_two_pow (n := 16) h2 hp⟩
      show add1 (a : Int) (m1 (a : Int) (b : Int) i) i = ((Nat.xor (m1N a b i) (a * 2 ^ i) : Nat) : Int)
      unfold add1
      rw [sft_eq ⟨i, by omega⟩, h1]
      have e : IntKind.i64.wrap (IntKind.i64.wrap (a : Int) * 2 ^ i) = ((a * 2 ^ i : Nat) : Int) := by
        have e1 : IntKind.i64.wrap (a : Int) = (a : Int) := by rw [IntKind.wrap_i64]; omega
        have e2 : (a : Int) * 2 ^ i = ((a * 2 ^ i : Nat) : Int) := by rw [Int.natCast_mul]; simp
        show IntKind.i64.wrap (IntKind.i64.wrap (a : Int) * 2 ^ i) = _
        rw [e1, e2, IntKind.wrap_i64]; omega
      show xorI .i64 _ (IntKind.i64.wrap (IntKind.i64.wrap (a : Int) * 2 ^ i)) = _
      rw [e, xorI64 h2 hp]; rfl
theorem red_pow : ∀ c : Fin 7, IntKind.i64.wrap (283 * 2 ^ sft (IntKind.i64.wrap (((14 - c.val : Nat) : Int) - 8))) = ((283 * 2 ^ (14 - c.val - 8) : Nat) : Int) := by decide +kernel
theorem red_lt : ∀ c : Fin 7, 283 * 2 ^ (14 - c.val - 8) < 65536 := by decide
theorem m2_eq {n : Nat} (hn : n < 65536) : ∀ c, c ≤ 7 → m2 (n : Int) c = (m2N n c : Nat) ∧ m2N n c < 65536
  | 0, _ => ⟨rfl, hn⟩
  | c + 1, h => by
    obtain ⟨h1, h2⟩ := m2_eq hn c (by omega)
    unfold m2 m2N
    rw [h1, bit2_eq (show 14 - c < 16 by omega)]
    cases Nat.beq (m2N n c / 2 ^ (14 - c) % 2) 1 with
    | false => exact ⟨rfl, h2⟩
    | true =>
      have hp := red_lt ⟨c, by omega⟩
      refine ⟨?_, Nat.xor_lt_two_pow (n := 16) h2 hp⟩
      show red2 ((m2N n c : Nat) : Int) (14 - c) = ((Nat.xor (m2N n c) (283 * 2 ^ (14 - c - 8)) : Nat) : Int)
      unfold red2
      rw [red_pow ⟨c, by omega⟩, xorI64 h2 hp]; rfl
def mulN (a b : Nat) : Nat := m2N (m1N a b 8) 7 % 256
theorem mul_eq {a b : Nat} (ha : a < 256) (hb : b < 256) : mulR (a : Int) (b : Int) = (mulN a b : Nat) := by
  obtain ⟨h1, h2⟩ := m1_eq ha hb 8 (by omega)
  obtain ⟨h3, h4⟩ := m2_eq h2 7 (by omega)
  unfold mulR
  rw [h1, h3, IntKind.wrap_u8]; unfold mulN; omega
def fiN (b : Nat) : Nat → Nat → Nat
  | 0, _ => 0
  | n + 1, i => bif Nat.beq (mulN b i) 1 then i else fiN b n (i + 1)
theorem fi_eq {b : Nat} (hb : b < 256) : ∀ n i, i + n ≤ 256 → (match fi (b : Int) n i with
    | some i => IntKind.u8.wrap i
    | none => 0) = ((fiN b n i : Nat) : Int)
  | 0, i, _ => rfl
  | n + 1, i, h => by
    unfold fi fiN
    have hh : hit (b : Int) (i : Int) = Nat.beq (mulN b i) 1 := by
      unfold hit
      have : IntKind.u8.wrap (i : Int) = (i : Int) := by rw [IntKind.wrap_u8]; omega
      rw [this, mul_eq hb (by omega)]; exact beq1 _
    rw [hh]
    cases Nat.beq (mulN b i) 1 with
    | false => exact fi_eq hb n (i + 1) (by omega)
    | true =>
      show IntKind.u8.wrap (i : Int) = (i : Int)
      rw [IntKind.wrap_u8]; omega
theorem inv_eq {b : Nat} (hb : b < 256) : invR (b : Int) = ((fiN b 256 0 : Nat) : Int) := fi_eq hb 256 0 (by omega)
end
end ae
end Go.Proofs.Ytkcngffpnnlmeaa
