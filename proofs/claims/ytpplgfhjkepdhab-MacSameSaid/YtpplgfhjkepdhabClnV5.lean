/- What the functions of this layer come to: read off their code by the clean reading, loops by induction. -/
import Derived.Test.YtpplgfhjkepdhabClnV1
import Derived.Test.YtpplgfhjkepdhabClnV2
import Derived.Test.YtpplgfhjkepdhabClnV3
import Derived.Test.YtpplgfhjkepdhabClnV4
set_option linter.unusedVariables false
set_option linter.unusedSimpArgs false
set_option linter.deprecated false
set_option maxRecDepth 100000
namespace Go.Proofs.Ytpplgfhjkepdhab
open Go.ChangeShapes Go.WideShapes Go.ChangeAt Go.RowKit Go.Cln
namespace sw
theorem conjL_all : ∀ {l : List Prop} {a : Prop}, a → (∀ p ∈ l, p) → conjL a l
  | [], _, ha, _ => ha
  | p :: l, _, ha, h => conjL_all (l := l) ⟨ha, h p (by simp)⟩ fun q hq => h q (by simp [hq])
theorem bv8 {x : Int} (h0 : 0 ≤ x) (h1 : x < 256) : (BitVec.ofInt 8 x).toNat = x.toNat := by
  rw [BitVec.toNat_ofInt]; congr 1; exact Int.emod_eq_of_lt h0 (by simpa using h1)
theorem or8 {a b : Int} (ha : 0 ≤ a ∧ a < 256) (hb : 0 ≤ b ∧ b < 256) : orI .u8 a b = ((a.toNat ||| b.toNat : Nat) : Int) := by
  unfold orI
  show IntKind.u8.wrap (((BitVec.ofInt 8 a ||| BitVec.ofInt 8 b).toNat : Nat) : Int) = _
  rw [BitVec.toNat_or, bv8 ha.1 ha.2, bv8 hb.1 hb.2, IntKind.wrap_u8]
  have : a.toNat ||| b.toNat < 2 ^ 8 := Nat.or_lt_two_pow (by omega) (by omega)
  omega
theorem xor8 {a b : Int} (ha : 0 ≤ a ∧ a < 256) (hb : 0 ≤ b ∧ b < 256) : xorI .u8 a b = ((a.toNat ^^^ b.toNat : Nat) : Int) := by
  unfold xorI
  show IntKind.u8.wrap (((BitVec.ofInt 8 a ^^^ BitVec.ofInt 8 b).toNat : Nat) : Int) = _
  rw [BitVec.toNat_xor, bv8 ha.1 ha.2, bv8 hb.1 hb.2, IntKind.wrap_u8]
  have : a.toNat ^^^ b.toNat < 2 ^ 8 := Nat.xor_lt_two_pow (by omega) (by omega)
  omega
theorem in8 (x : Int) : 0 ≤ IntKind.u8.wrap x ∧ IntKind.u8.wrap x < 256 := by rw [IntKind.wrap_u8]; omega
theorem xor_in (a b : Int) : 0 ≤ xorI .u8 a b ∧ xorI .u8 a b < 256 := in8 _
theorem sS_in (a b : Nat → Int) : ∀ k, 0 ≤ sS a b k ∧ sS a b k < 256
  | 0 => ⟨Int.le_refl 0, show (0 : Int) < 256 by decide⟩
  | k + 1 => in8 _
theorem xor_zero {a b : Int} (ha : 0 ≤ a ∧ a < 256) (hb : 0 ≤ b ∧ b < 256) : xorI .u8 a b = 0 ↔ a = b := by
  rw [xor8 ha hb]
  constructor
  · intro h
    have h1 : a.toNat ^^^ b.toNat = 0 := by omega
    have h2 : a.toNat = b.toNat := by
      have e : a.toNat = a.toNat ^^^ b.toNat ^^^ b.toNat := by rw [Nat.xor_assoc, Nat.xor_self, Nat.xor_zero]
      rw [h1, Nat.zero_xor] at e; exact e
    omega
  · intro h; rw [h, Nat.xor_self]; rfl
theorem or_zero {a b : Int} (ha : 0 ≤ a ∧ a < 256) (hb : 0 ≤ b ∧ b < 256) : orI .u8 a b = 0 ↔ a = 0 ∧ b = 0 := by
  rw [or8 ha hb]
  constructor
  · intro h
    have h1 : a.toNat ||| b.toNat = 0 := by omega
    have := Nat.or_eq_zero_iff.1 h1
    omega
  · rintro ⟨rfl, rfl⟩; rfl
theorem sS_zero {a b : Nat → Int} : ∀ k, (∀ i, i < k → (0 ≤ a i ∧ a i < 256) ∧ (0 ≤ b i ∧ b i < 256)) → (sS a b k = 0 ↔ ∀ i, i < k → a i = b i)
  | 0, _ => ⟨fun _ i hi => by omega, fun _ => rfl⟩
  | k + 1, h => by
    show orI .u8 (sS a b k) (xorI .u8 (a k) (b k)) = 0 ↔ _
    rw [or_zero (sS_in a b k) (xor_in _ _), sS_zero k fun i hi => h i (by omega), xor_zero (h k (by omega)).1 (h k (by omega)).2]
    constructor
    · rintro ⟨h1, h2⟩ i hi
      by_cases e : i = k
      · subst e; exact h2
      · exact h1 i (by omega)
    · intro h1; exact ⟨fun i hi => h1 i (by omega), h1 k (by omega)⟩
theorem big_all {a b : Nat → Int} {k : Nat} {e : Bool} (ha : ∀ i, i < 12 → 0 ≤ a i ∧ a i < 256) (hb : ∀ i, i < 12 → 0 ≤ b i ∧ b i < 256) (h1 : ∀ i, i < k → a i = b i) (h2 : e = false → k < 12 ∧ a k ≠ b k) (h3 : e = true → k = 12) : ∀ p ∈ big a b k e, p := by
  have he : ∀ p ∈ eqs a b k e, p := by
    intro p hp
    rcases List.mem_append.1 hp with hp | hp
    · simp only [List.mem_map, List.mem_range] at hp
      obtain ⟨i, hi, rfl⟩ := hp
      rw [h1 i hi]; simp
    · cases e with
      | true => simp at hp
      | false =>
        simp only [Bool.false_eq_true, if_false, List.mem_singleton] at hp
        subst hp
        rw [beq_eq_false_iff_ne]; exact (h2 rfl).2
  have hS : (sS a b 12 == 0) = e := by
    have := sS_zero (a := a) (b := b) 12 fun i hi => ⟨ha i hi, hb i hi⟩
    cases e with
    | true =>
      have hk := h3 rfl
      subst hk
      rw [beq_iff_eq]; exact this.2 h1
    | false =>
      rw [beq_eq_false_iff_ne]; intro h0
      exact (h2 rfl).2 (this.1 h0 k (h2 rfl).1)
  have hS2 : (sS b a 12 == 0) = e := by
    have := sS_zero (a := b) (b := a) 12 fun i hi => ⟨hb i hi, ha i hi⟩
    cases e with
    | true =>
      have hk := h3 rfl
      subst hk
      rw [beq_iff_eq]; exact this.2 fun i hi => (h1 i hi).symm
    | false =>
      rw [beq_eq_false_iff_ne]; intro h0
      exact (h2 rfl).2 (this.1 h0 k (h2 rfl).1).symm
  have hS3 : (sS a a 12 == 0) = true := by
    rw [beq_iff_eq]; exact (sS_zero (a := a) (b := a) 12 fun i hi => ⟨ha i hi, ha i hi⟩).2 fun _ _ => rfl
  intro p hp
  unfold big at hp
  rcases List.mem_append.1 hp with hp | hp
  · exact he p hp
  rcases List.mem_append.1 hp with hp | hp
  · rw [List.eq_of_mem_replicate hp, hS]; cases e <;> rfl
  rcases List.mem_append.1 hp with hp | hp
  · exact he p hp
  rcases List.mem_append.1 hp with hp | hp
  · rw [List.eq_of_mem_replicate hp, hS]; cases e <;> rfl
  rcases List.mem_append.1 hp with hp | hp
  · rw [List.eq_of_mem_replicate hp, hS2]; cases e <;> rfl
  · rw [List.eq_of_mem_replicate hp]; exact hS3
theorem flip_ne : ∀ n : Fin 256, ∀ s : Fin 8, ((n.val : Int) == xorI .u8 (n.val : Int) (IntKind.u8.wrap (1 * 2 ^ s.val))) = false := by decide +kernel
theorem first_diff (a b : Nat → Int) : ∀ n, (∀ i, i < n → a i = b i) ∨ ∃ k, k < n ∧ (∀ i, i < k → a i = b i) ∧ a k ≠ b k
  | 0 => .inl fun i hi => by omega
  | n + 1 => by
    rcases first_diff a b n with h | ⟨k, h1, h2, h3⟩
    · by_cases e : a n = b n
      · exact .inl fun i hi => by
          by_cases e2 : i = n
          · subst e2; exact e
          · exact h i (by omega)
      · exact .inr ⟨n, by omega, h, e⟩
    · exact .inr ⟨k, by omega, h2, h3⟩
theorem KM_ok : GivenOk Try.prog KM := ((CallsOk.one rfl known).or F4_ok).given.fit
theorem macSame (W : World) (a : Nat → Int) (wa : ∀ j, j < 12 → (Lit.int .u8 (a j)).wf = true) (b : Nat → Int) (wb : ∀ j, j < 12 → (Lit.int .u8 (b j)).wf = true) (near : Bool) (n : Int) :
    Calls Try.prog 3 #[.agg (rowV .u8 12 a).toArray, .agg (rowV .u8 12 b).toArray, .bool near, .int .i64 n] W fun e w' => e = .returned (.bool true) ∧ Below W.heap.size W w' := by
  have range : ∀ g : Nat → Int, (∀ j, j < 12 → (Lit.int .u8 (g j)).wf = true) → ∀ j, j < 12 → 0 ≤ g j ∧ g j < 256 := fun g hg j hj => by
    have h : IntKind.u8.min ≤ g j ∧ g j ≤ IntKind.u8.max := by simpa [Lit.wf] using hg j hj
    have e1 : IntKind.u8.min = 0 := by decide
    have e2 : IntKind.u8.max = 255 := by decide
    rw [e1, e2] at h; omega
  have ra := range a wa
  have rb := range b wb
  cases near with
  | false =>
    rcases first_diff a b 12 with h | ⟨k, h1, h2, h3⟩
    · exact ranF pg KM_ok (m12 a b n) (conjL_all trivial (big_all ra rb h (fun e => by cases e) fun _ => rfl)) rfl rfl W
    · have hr : ∀ k, k < 12 → (runM a b n k false).map (fun r => (r.1, r.2.obl)) = some (.bool true, pM a b k false) := fun k hk => by
        match k, hk with
    | 0, _ => exact m0 a b n
    | 1, _ => exact m1 a b n
    | 2, _ => exact m2 a b n
    | 3, _ => exact m3 a b n
    | 4, _ => exact m4 a b n
    | 5, _ => exact m5 a b n
    | 6, _ => exact m6 a b n
    | 7, _ => exact m7 a b n
    | 8, _ => exact m8 a b n
    | 9, _ => exact m9 a b n
    | 10, _ => exact m10 a b n
    | 11, _ => exact m11 a b n
    | k + 12, h => omega
      exact ranF pg KM_ok (hr k h1) (conjL_all trivial (big_all ra rb h2 (fun _ => ⟨h1, h3⟩) fun e => by cases e)) rfl rfl W
  | true =>
    have hr : ∀ m, 1 ≤ m → m ≤ 191 → (runN a b n m (m % 96 / 8)).map (fun r => (r.1, r.2.obl)) = some (.bool true, pN a n m (m % 96 / 8) (m % 96 % 8)) := fun m h1 h2 => by
      match m, h1, h2 with
    | 1, _, _ => exact q1 a b n
    | 2, _, _ => exact q2 a b n
    | 3, _, _ => exact q3 a b n
    | 4, _, _ => exact q4 a b n
    | 5, _, _ => exact q5 a b n
    | 6, _, _ => exact q6 a b n
    | 7, _, _ => exact q7 a b n
    | 8, _, _ => exact q8 a b n
    | 9, _, _ => exact q9 a b n
    | 10, _, _ => exact q10 a b n
    | 11, _, _ => exact q11 a b n
    | 12, _, _ => exact q12 a b n
    | 13, _, _ => exact q13 a b n
    | 14, _, _ => exact q14 a b n
    | 15, _, _ => exact q15 a b n
    | 16, _, _ => exact q16 a b n
    | 17, _, _ => exact q17 a b n
    | 18, _, _ => exact q18 a b n
    | 19, _, _ => exact q19 a b n
    | 20, _, _ => exact q20 a b n
    | 21, _, _ => exact q21 a b n
    | 22, _, _ => exact q22 a b n
    | 23, _, _ => exact q23 a b n
    | 24, _, _ => exact q24 a b n
    | 25, _, _ => exact q25 a b n
    | 26, _, _ => exact q26 a b n
    | 27, _, _ => exact q27 a b n
    | 28, _, _ => exact q28 a b n
    | 29, _, _ => exact q29 a b n
    | 30, _, _ => exact q30 a b n
    | 31, _, _ => exact q31 a b n
    | 32, _, _ => exact q32 a b n
    | 33, _, _ => exact q33 a b n
    | 34, _, _ => exact q34 a b n
    | 35, _, _ => exact q35 a b n
    | 36, _, _ => exact q36 a b n
    | 37, _, _ => exact q37 a b n
    | 38, _, _ => exact q38 a b n
    | 39, _, _ => exact q39 a b n
    | 40, _, _ => exact q40 a b n
    | 41, _, _ => exact q41 a b n
    | 42, _, _ => exact q42 a b n
    | 43, _, _ => exact q43 a b n
    | 44, _, _ => exact q44 a b n
    | 45, _, _ => exact q45 a b n
    | 46, _, _ => exact q46 a b n
    | 47, _, _ => exact q47 a b n
    | 48, _, _ => exact q48 a b n
    | 49, _, _ => exact q49 a b n
    | 50, _, _ => exact q50 a b n
    | 51, _, _ => exact q51 a b n
    | 52, _, _ => exact q52 a b n
    | 53, _, _ => exact q53 a b n
    | 54, _, _ => exact q54 a b n
    | 55, _, _ => exact q55 a b n
    | 56, _, _ => exact q56 a b n
    | 57, _, _ => exact q57 a b n
    | 58, _, _ => exact q58 a b n
    | 59, _, _ => exact q59 a b n
    | 60, _, _ => exact q60 a b n
    | 61, _, _ => exact q61 a b n
    | 62, _, _ => exact q62 a b n
    | 63, _, _ => exact q63 a b n
    | 64, _, _ => exact q64 a b n
    | 65, _, _ => exact q65 a b n
    | 66, _, _ => exact q66 a b n
    | 67, _, _ => exact q67 a b n
    | 68, _, _ => exact q68 a b n
    | 69, _, _ => exact q69 a b n
    | 70, _, _ => exact q70 a b n
    | 71, _, _ => exact q71 a b n
    | 72, _, _ => exact q72 a b n
    | 73, _, _ => exact q73 a b n
    | 74, _, _ => exact q74 a b n
    | 75, _, _ => exact q75 a b n
    | 76, _, _ => exact q76 a b n
    | 77, _, _ => exact q77 a b n
    | 78, _, _ => exact q78 a b n
    | 79, _, _ => exact q79 a b n
    | 80, _, _ => exact q80 a b n
    | 81, _, _ => exact q81 a b n
    | 82, _, _ => exact q82 a b n
    | 83, _, _ => exact q83 a b n
    | 84, _, _ => exact q84 a b n
    | 85, _, _ => exact q85 a b n
    | 86, _, _ => exact q86 a b n
    | 87, _, _ => exact q87 a b n
    | 88, _, _ => exact q88 a b n
    | 89, _, _ => exact q89 a b n
    | 90, _, _ => exact q90 a b n
    | 91, _, _ => exact q91 a b n
    | 92, _, _ => exact q92 a b n
    | 93, _, _ => exact q93 a b n
    | 94, _, _ => exact q94 a b n
    | 95, _, _ => exact q95 a b n
    | 96, _, _ => exact q96 a b n
    | 97, _, _ => exact q97 a b n
    | 98, _, _ => exact q98 a b n
    | 99, _, _ => exact q99 a b n
    | 100, _, _ => exact q100 a b n
    | 101, _, _ => exact q101 a b n
    | 102, _, _ => exact q102 a b n
    | 103, _, _ => exact q103 a b n
    | 104, _, _ => exact q104 a b n
    | 105, _, _ => exact q105 a b n
    | 106, _, _ => exact q106 a b n
    | 107, _, _ => exact q107 a b n
    | 108, _, _ => exact q108 a b n
    | 109, _, _ => exact q109 a b n
    | 110, _, _ => exact q110 a b n
    | 111, _, _ => exact q111 a b n
    | 112, _, _ => exact q112 a b n
    | 113, _, _ => exact q113 a b n
    | 114, _, _ => exact q114 a b n
    | 115, _, _ => exact q115 a b n
    | 116, _, _ => exact q116 a b n
    | 117, _, _ => exact q117 a b n
    | 118, _, _ => exact q118 a b n
    | 119, _, _ => exact q119 a b n
    | 120, _, _ => exact q120 a b n
    | 121, _, _ => exact q121 a b n
    | 122, _, _ => exact q122 a b n
    | 123, _, _ => exact q123 a b n
    | 124, _, _ => exact q124 a b n
    | 125, _, _ => exact q125 a b n
    | 126, _, _ => exact q126 a b n
    | 127, _, _ => exact q127 a b n
    | 128, _, _ => exact q128 a b n
    | 129, _, _ => exact q129 a b n
    | 130, _, _ => exact q130 a b n
    | 131, _, _ => exact q131 a b n
    | 132, _, _ => exact q132 a b n
    | 133, _, _ => exact q133 a b n
    | 134, _, _ => exact q134 a b n
    | 135, _, _ => exact q135 a b n
    | 136, _, _ => exact q136 a b n
    | 137, _, _ => exact q137 a b n
    | 138, _, _ => exact q138 a b n
    | 139, _, _ => exact q139 a b n
    | 140, _, _ => exact q140 a b n
    | 141, _, _ => exact q141 a b n
    | 142, _, _ => exact q142 a b n
    | 143, _, _ => exact q143 a b n
    | 144, _, _ => exact q144 a b n
    | 145, _, _ => exact q145 a b n
    | 146, _, _ => exact q146 a b n
    | 147, _, _ => exact q147 a b n
    | 148, _, _ => exact q148 a b n
    | 149, _, _ => exact q149 a b n
    | 150, _, _ => exact q150 a b n
    | 151, _, _ => exact q151 a b n
    | 152, _, _ => exact q152 a b n
    | 153, _, _ => exact q153 a b n
    | 154, _, _ => exact q154 a b n
    | 155, _, _ => exact q155 a b n
    | 156, _, _ => exact q156 a b n
    | 157, _, _ => exact q157 a b n
    | 158, _, _ => exact q158 a b n
    | 159, _, _ => exact q159 a b n
    | 160, _, _ => exact q160 a b n
    | 161, _, _ => exact q161 a b n
    | 162, _, _ => exact q162 a b n
    | 163, _, _ => exact q163 a b n
    | 164, _, _ => exact q164 a b n
    | 165, _, _ => exact q165 a b n
    | 166, _, _ => exact q166 a b n
    | 167, _, _ => exact q167 a b n
    | 168, _, _ => exact q168 a b n
    | 169, _, _ => exact q169 a b n
    | 170, _, _ => exact q170 a b n
    | 171, _, _ => exact q171 a b n
    | 172, _, _ => exact q172 a b n
    | 173, _, _ => exact q173 a b n
    | 174, _, _ => exact q174 a b n
    | 175, _, _ => exact q175 a b n
    | 176, _, _ => exact q176 a b n
    | 177, _, _ => exact q177 a b n
    | 178, _, _ => exact q178 a b n
    | 179, _, _ => exact q179 a b n
    | 180, _, _ => exact q180 a b n
    | 181, _, _ => exact q181 a b n
    | 182, _, _ => exact q182 a b n
    | 183, _, _ => exact q183 a b n
    | 184, _, _ => exact q184 a b n
    | 185, _, _ => exact q185 a b n
    | 186, _, _ => exact q186 a b n
    | 187, _, _ => exact q187 a b n
    | 188, _, _ => exact q188 a b n
    | 189, _, _ => exact q189 a b n
    | 190, _, _ => exact q190 a b n
    | 191, _, _ => exact q191 a b n
    | k + 192, _, b => omega
    have hb1 : -96 < n.tmod 96 ∧ n.tmod 96 < 96 := ⟨Int.lt_tmod_of_pos n (by decide), Int.tmod_lt_of_pos n (by decide)⟩
    obtain ⟨m, hm⟩ : ∃ m : Nat, (m : Int) = n.tmod 96 + 96 := ⟨(n.tmod 96 + 96).toNat, by omega⟩
    have hj : m % 96 / 8 < 12 := by omega
    have rf : ∀ i, i < 12 → 0 ≤ fl a (m % 96 / 8) (m % 96 % 8) i ∧ fl a (m % 96 / 8) (m % 96 % 8) i < 256 := fun i hi => by
      unfold fl; split
      · exact xor_in _ _
      · exact ra i hi
    refine ranF pg KM_ok (hr m (by omega) (by omega)) (conjL_all ⟨trivial, ?_⟩ (big_all ra rf (fun i hi => ?_) (fun _ => ⟨hj, ?_⟩) fun e => by cases e)) rfl rfl W
    · rw [IntKind.wrap_i64]; show _ = (m : Int); omega
    · unfold fl; rw [if_neg (by omega)]
    · unfold fl
      rw [if_pos rfl]
      have h0 := ra _ hj
      have := flip_ne ⟨(a (m % 96 / 8)).toNat, by omega⟩ ⟨m % 96 % 8, by omega⟩
      rw [beq_eq_false_iff_ne] at this
      have e : (((a (m % 96 / 8)).toNat : Nat) : Int) = a (m % 96 / 8) := by omega
      simp only [e] at this
      exact this
end sw
end Go.Proofs.Ytpplgfhjkepdhab
