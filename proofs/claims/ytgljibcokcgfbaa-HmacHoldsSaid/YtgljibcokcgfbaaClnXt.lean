/- Read off the code by the clean reading. -/
import Derived.Test.YtgljibcokcgfbaaClnXy
import Derived.Test.YtgljibcokcgfbaaClnXz
import Derived.Test.YtgljibcokcgfbaaClnXx
set_option linter.unusedVariables false
set_option linter.unusedSimpArgs false
set_option linter.deprecated false
set_option maxRecDepth 100000
namespace Go.Proofs.Ytgljibcokcgfbaa
open Go.ChangeShapes Go.WideShapes Go.ChangeAt Go.RowKit Go.Cln
namespace hw
set_option linter.unusedVariables false
noncomputable section
open hq (KY kv)
/-- the law, whatever the key, the message, the cuts, the noughts -/
theorem hmacHolds (W : World) (a0 : Option Addr) (n0 c0 : Nat) (s0 : (a0 = none ∧ n0 = 0 ∧ c0 = 0) ∨ ∃ b o, a0 = some ⟨b, o, none⟩ ∧ n0 ≤ c0 ∧ (c0 : Int) ≤ 9223372036854775807)
    (z0 : n0 = 0 ∨ ∃ (b o : Nat) (f : Nat → Int), a0 = some ⟨b, o, none⟩ ∧ b < W.heap.size ∧ ∀ j, j < n0 → W.cell? ⟨b, o + j, none⟩ = some (.int .u8 (f j)) ∧ (Lit.int .u8 (f j)).wf = true)
    (a1 : Option Addr) (n1 c1 : Nat) (s1 : (a1 = none ∧ n1 = 0 ∧ c1 = 0) ∨ ∃ b o, a1 = some ⟨b, o, none⟩ ∧ n1 ≤ c1 ∧ (c1 : Int) ≤ 9223372036854775807)
    (z1 : n1 = 0 ∨ ∃ (b o : Nat) (f : Nat → Int), a1 = some ⟨b, o, none⟩ ∧ b < W.heap.size ∧ ∀ j, j < n1 → W.cell? ⟨b, o + j, none⟩ = some (.int .u8 (f j)) ∧ (Lit.int .u8 (f j)).wf = true)
    (a2 : Option Addr) (n2 c2 : Nat) (s2 : (a2 = none ∧ n2 = 0 ∧ c2 = 0) ∨ ∃ b o, a2 = some ⟨b, o, none⟩ ∧ n2 ≤ c2 ∧ (c2 : Int) ≤ 9223372036854775807)
    (z2 : n2 = 0 ∨ ∃ (b o : Nat) (f : Nat → Int), a2 = some ⟨b, o, none⟩ ∧ b < W.heap.size ∧ ∀ j, j < n2 → W.cell? ⟨b, o + j, none⟩ = some (.int .i64 (f j)) ∧ (Lit.int .i64 (f j)).wf = true) (N : Int) :
    Calls Try.prog 4 #[.slice a0 n0 c0, .slice a1 n1 c1, .slice a2 n2 c2, .int .i64 N] W fun e w' => e = .returned (.bool true) ∧ Below W.heap.size W w' := by
  by_cases he : n0 = 0 ∧ n1 = 0 ∧ n2 = 0
  · obtain ⟨rfl, rfl, rfl⟩ := he
    have kb := KB_ok ha.kb hz.AB hq.TT0 hq.tgN
    rcases s0 with ⟨rfl, _, rfl⟩ | ⟨b, o, rfl, hc, _⟩ <;> rcases s1 with ⟨rfl, _, rfl⟩ | ⟨b', o', rfl, hc', _⟩ <;> rcases s2 with ⟨rfl, _, rfl⟩ | ⟨b2, o2, rfl, hc2, _⟩
    · have fin : ∀ (orc : List (Option Bool)) (p : Prop), callB (KB ha.kb hz.AB hq.TT0 hq.tgN) nl nl nl N 0 orc = some (.bool true, p) → p → Calls Try.prog 4 #[.slice none 0 0, .slice none 0 0, .slice none 0 0, .int .i64 N] W fun e w' => e = .returned (.bool true) ∧ Below W.heap.size W w' := fun orc p hr hp => ran sw.pg kb hr hp rfl rfl W
      by_cases h8 : N < 0
      · exact fin _ _ (nwannn _ _ _ _ N ) ⟨⟨trivial, decide_eq_true h8⟩, trivial⟩
      by_cases h9 : N > 64
      · exact fin _ _ (nwbnnn _ _ _ _ N ) ⟨⟨⟨trivial, decide_eq_false h8⟩, decide_eq_true h9⟩, trivial⟩
      by_cases hma : N > 0
      · exact fin _ _ (nw1nnn _ _ _ _ N ) (okN1 (by omega) (by omega) hma)
      · exact fin _ _ (nw2nnn _ _ _ _ N ) (okN2 (by omega) (by omega) hma)
    · have fin : ∀ (orc : List (Option Bool)) (p : Prop), callB (KB ha.kb hz.AB hq.TT0 hq.tgN) nl nl (zs 0 c2) N 1 orc = some (.bool true, p) → p → Calls Try.prog 4 #[.slice none 0 0, .slice none 0 0, .slice (some ⟨b2, o2, none⟩) 0 c2, .int .i64 N] W fun e w' => e = .returned (.bool true) ∧ Below W.heap.size W w' := fun orc p hr hp => ranG sw.pg kb (ρ := fun k => ⟨b2, o2, 0⟩) hr hp rfl (named_hs 1 _ _ W) (VL.cons (VR.same rfl) (VL.cons (VR.same rfl) (VL.cons (VR.unread (a := ⟨b2, o2, none⟩) (by decide) rfl rfl hc2) (VL.cons (VR.same rfl) VL.nil))))
      by_cases h8 : N < 0
      · exact fin _ _ (nwannz _ _ _ _ N c2) ⟨⟨trivial, decide_eq_true h8⟩, trivial⟩
      by_cases h9 : N > 64
      · exact fin _ _ (nwbnnz _ _ _ _ N c2) ⟨⟨⟨trivial, decide_eq_false h8⟩, decide_eq_true h9⟩, trivial⟩
      by_cases hma : N > 0
      · exact fin _ _ (nw1nnz _ _ _ _ N c2) (okN1 (by omega) (by omega) hma)
      · exact fin _ _ (nw2nnz _ _ _ _ N c2) (okN2 (by omega) (by omega) hma)
    · have fin : ∀ (orc : List (Option Bool)) (p : Prop), callB (KB ha.kb hz.AB hq.TT0 hq.tgN) nl (zs 0 c1) nl N 1 orc = some (.bool true, p) → p → Calls Try.prog 4 #[.slice none 0 0, .slice (some ⟨b', o', none⟩) 0 c1, .slice none 0 0, .int .i64 N] W fun e w' => e = .returned (.bool true) ∧ Below W.heap.size W w' := fun orc p hr hp => ranG sw.pg kb (ρ := fun k => ⟨b', o', 0⟩) hr hp rfl (named_hs 1 _ _ W) (VL.cons (VR.same rfl) (VL.cons (VR.unread (a := ⟨b', o', none⟩) (by decide) rfl rfl hc') (VL.cons (VR.same rfl) (VL.cons (VR.same rfl) VL.nil))))
      by_cases h8 : N < 0
      · exact fin _ _ (nwanzn _ _ _ _ N c1) ⟨⟨trivial, decide_eq_true h8⟩, trivial⟩
      by_cases h9 : N > 64
      · exact fin _ _ (nwbnzn _ _ _ _ N c1) ⟨⟨⟨trivial, decide_eq_false h8⟩, decide_eq_true h9⟩, trivial⟩
      by_cases hma : N > 0
      · exact fin _ _ (nw1nzn _ _ _ _ N c1) (okN1 (by omega) (by omega) hma)
      · exact fin _ _ (nw2nzn _ _ _ _ N c1) (okN2 (by omega) (by omega) hma)
    · have fin : ∀ (orc : List (Option Bool)) (p : Prop), callB (KB ha.kb hz.AB hq.TT0 hq.tgN) nl (zs 0 c1) (zs 1 c2) N 2 orc = some (.bool true, p) → p → Calls Try.prog 4 #[.slice none 0 0, .slice (some ⟨b', o', none⟩) 0 c1, .slice (some ⟨b2, o2, none⟩) 0 c2, .int .i64 N] W fun e w' => e = .returned (.bool true) ∧ Below W.heap.size W w' := fun orc p hr hp => ranG sw.pg kb (ρ := fun k => if k = 0 then ⟨b', o', 0⟩ else ⟨b2, o2, 0⟩) hr hp rfl (named_hs 2 _ _ W) (VL.cons (VR.same rfl) (VL.cons (VR.unread (a := ⟨b', o', none⟩) (by decide) rfl rfl hc') (VL.cons (VR.unread (a := ⟨b2, o2, none⟩) (by decide) rfl rfl hc2) (VL.cons (VR.same rfl) VL.nil))))
      by_cases h8 : N < 0
      · exact fin _ _ (nwanzz _ _ _ _ N c1 c2) ⟨⟨trivial, decide_eq_true h8⟩, trivial⟩
      by_cases h9 : N > 64
      · exact fin _ _ (nwbnzz _ _ _ _ N c1 c2) ⟨⟨⟨trivial, decide_eq_false h8⟩, decide_eq_true h9⟩, trivial⟩
      by_cases hma : N > 0
      · exact fin _ _ (nw1nzz _ _ _ _ N c1 c2) (okN1 (by omega) (by omega) hma)
      · exact fin _ _ (nw2nzz _ _ _ _ N c1 c2) (okN2 (by omega) (by omega) hma)
    · have fin : ∀ (orc : List (Option Bool)) (p : Prop), callB (KB ha.kb hz.AB hq.TT0 hq.tgN) (zs 0 c0) nl nl N 1 orc = some (.bool true, p) → p → Calls Try.prog 4 #[.slice (some ⟨b, o, none⟩) 0 c0, .slice none 0 0, .slice none 0 0, .int .i64 N] W fun e w' => e = .returned (.bool true) ∧ Below W.heap.size W w' := fun orc p hr hp => ranG sw.pg kb (ρ := fun k => ⟨b, o, 0⟩) hr hp rfl (named_hs 1 _ _ W) (VL.cons (VR.unread (a := ⟨b, o, none⟩) (by decide) rfl rfl hc) (VL.cons (VR.same rfl) (VL.cons (VR.same rfl) (VL.cons (VR.same rfl) VL.nil))))
      by_cases h8 : N < 0
      · exact fin _ _ (nwaznn _ _ _ _ N c0) ⟨⟨trivial, decide_eq_true h8⟩, trivial⟩
      by_cases h9 : N > 64
      · exact fin _ _ (nwbznn _ _ _ _ N c0) ⟨⟨⟨trivial, decide_eq_false h8⟩, decide_eq_true h9⟩, trivial⟩
      by_cases hma : N > 0
      · exact fin _ _ (nw1znn _ _ _ _ N c0) (okN1 (by omega) (by omega) hma)
      · exact fin _ _ (nw2znn _ _ _ _ N c0) (okN2 (by omega) (by omega) hma)
    · have fin : ∀ (orc : List (Option Bool)) (p : Prop), callB (KB ha.kb hz.AB hq.TT0 hq.tgN) (zs 0 c0) nl (zs 1 c2) N 2 orc = some (.bool true, p) → p → Calls Try.prog 4 #[.slice (some ⟨b, o, none⟩) 0 c0, .slice none 0 0, .slice (some ⟨b2, o2, none⟩) 0 c2, .int .i64 N] W fun e w' => e = .returned (.bool true) ∧ Below W.heap.size W w' := fun orc p hr hp => ranG sw.pg kb (ρ := fun k => if k = 0 then ⟨b, o, 0⟩ else ⟨b2, o2, 0⟩) hr hp rfl (named_hs 2 _ _ W) (VL.cons (VR.unread (a := ⟨b, o, none⟩) (by decide) rfl rfl hc) (VL.cons (VR.same rfl) (VL.cons (VR.unread (a := ⟨b2, o2, none⟩) (by decide) rfl rfl hc2) (VL.cons (VR.same rfl) VL.nil))))
      by_cases h8 : N < 0
      · exact fin _ _ (nwaznz _ _ _ _ N c0 c2) ⟨⟨trivial, decide_eq_true h8⟩, trivial⟩
      by_cases h9 : N > 64
      · exact fin _ _ (nwbznz _ _ _ _ N c0 c2) ⟨⟨⟨trivial, decide_eq_false h8⟩, decide_eq_true h9⟩, trivial⟩
      by_cases hma : N > 0
      · exact fin _ _ (nw1znz _ _ _ _ N c0 c2) (okN1 (by omega) (by omega) hma)
      · exact fin _ _ (nw2znz _ _ _ _ N c0 c2) (okN2 (by omega) (by omega) hma)
    · have fin : ∀ (orc : List (Option Bool)) (p : Prop), callB (KB ha.kb hz.AB hq.TT0 hq.tgN) (zs 0 c0) (zs 1 c1) nl N 2 orc = some (.bool true, p) → p → Calls Try.prog 4 #[.slice (some ⟨b, o, none⟩) 0 c0, .slice (some ⟨b', o', none⟩) 0 c1, .slice none 0 0, .int .i64 N] W fun e w' => e = .returned (.bool true) ∧ Below W.heap.size W w' := fun orc p hr hp => ranG sw.pg kb (ρ := fun k => if k = 0 then ⟨b, o, 0⟩ else ⟨b', o', 0⟩) hr hp rfl (named_hs 2 _ _ W) (VL.cons (VR.unread (a := ⟨b, o, none⟩) (by decide) rfl rfl hc) (VL.cons (VR.unread (a := ⟨b', o', none⟩) (by decide) rfl rfl hc') (VL.cons (VR.same rfl) (VL.cons (VR.same rfl) VL.nil))))
      by_cases h8 : N < 0
      · exact fin _ _ (nwazzn _ _ _ _ N c0 c1) ⟨⟨trivial, decide_eq_true h8⟩, trivial⟩
      by_cases h9 : N > 64
      · exact fin _ _ (nwbzzn _ _ _ _ N c0 c1) ⟨⟨⟨trivial, decide_eq_false h8⟩, decide_eq_true h9⟩, trivial⟩
      by_cases hma : N > 0
      · exact fin _ _ (nw1zzn _ _ _ _ N c0 c1) (okN1 (by omega) (by omega) hma)
      · exact fin _ _ (nw2zzn _ _ _ _ N c0 c1) (okN2 (by omega) (by omega) hma)
    · have fin : ∀ (orc : List (Option Bool)) (p : Prop), callB (KB ha.kb hz.AB hq.TT0 hq.tgN) (zs 0 c0) (zs 1 c1) (zs 2 c2) N 3 orc = some (.bool true, p) → p → Calls Try.prog 4 #[.slice (some ⟨b, o, none⟩) 0 c0, .slice (some ⟨b', o', none⟩) 0 c1, .slice (some ⟨b2, o2, none⟩) 0 c2, .int .i64 N] W fun e w' => e = .returned (.bool true) ∧ Below W.heap.size W w' := fun orc p hr hp => ranG sw.pg kb (ρ := fun k => if k = 0 then ⟨b, o, 0⟩ else if k = 1 then ⟨b', o', 0⟩ else ⟨b2, o2, 0⟩) hr hp rfl (named_hs 3 _ _ W) (VL.cons (VR.unread (a := ⟨b, o, none⟩) (by decide) rfl rfl hc) (VL.cons (VR.unread (a := ⟨b', o', none⟩) (by decide) rfl rfl hc') (VL.cons (VR.unread (a := ⟨b2, o2, none⟩) (by decide) rfl rfl hc2) (VL.cons (VR.same rfl) VL.nil))))
      by_cases h8 : N < 0
      · exact fin _ _ (nwazzz _ _ _ _ N c0 c1 c2) ⟨⟨trivial, decide_eq_true h8⟩, trivial⟩
      by_cases h9 : N > 64
      · exact fin _ _ (nwbzzz _ _ _ _ N c0 c1 c2) ⟨⟨⟨trivial, decide_eq_false h8⟩, decide_eq_true h9⟩, trivial⟩
      by_cases hma : N > 0
      · exact fin _ _ (nw1zzz _ _ _ _ N c0 c1 c2) (okN1 (by omega) (by omega) hma)
      · exact fin _ _ (nw2zzz _ _ _ _ N c0 c1 c2) (okN2 (by omega) (by omega) hma)
  · have hW : 0 < W.heap.size := by
      rcases z0 with h | ⟨_, _, _, _, hb, _⟩
      · rcases z1 with h' | ⟨_, _, _, _, hb, _⟩
        · rcases z2 with h'' | ⟨_, _, _, _, hb, _⟩
          · exact absurd ⟨h, h', h''⟩ he
          · omega
        · omega
      · omega
    obtain ⟨y, u0, k0⟩ := by_of s0 z0
    obtain ⟨z, u1, k1⟩ := by_of s1 z1
    obtain ⟨u, u2, k2⟩ := cuts_of s2 z2
    exact holdsW hW N u0 u1 u2 k0 k1 k2
end
end hw
end Go.Proofs.Ytgljibcokcgfbaa
