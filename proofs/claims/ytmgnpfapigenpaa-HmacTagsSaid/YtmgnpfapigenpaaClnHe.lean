/- Read off the code by the clean reading. -/
import Derived.Test.YtmgnpfapigenpaaClnHd
set_option linter.unusedVariables false
set_option linter.unusedSimpArgs false
set_option linter.deprecated false
set_option maxRecDepth 100000
namespace Go.Proofs.Ytmgnpfapigenpaa
open Go.ChangeShapes Go.WideShapes Go.ChangeAt Go.RowKit Go.Cln
namespace hd
open hc hx hy hz tb tc td ha
set_option linter.unusedVariables false
noncomputable section
/-- Tag, of a key that has bytes and of one part that has bytes -/
def r12 (KF : KT') (D : DT) (A : AT) (E : ET) (x y : Value) (k z : Option Ob) (o : List (Option Bool)) : Option (Value × St) := (mk Try.prog (KT KF (xorI .u8) D A E) 300).call 12 [x, .slice (some ⟨1, 0, none⟩) 1 1] (smSt 3 [k, some (.cells (.lit [y]) 22), z] o)
def v1 (b n c : Nat) : Value := .slice (some ⟨b, 0, some 1⟩) n c
def w36 (A : AT) (l : List Value) (W : List Int) (n c : Nat) : Prop := A = AB ∧ 0 ≤ intAt l 64 ∧ intAt l 64 < 64 ∧ n = W.length ∧ n ≤ c
def g36 (A : AT) (l : List Value) (W : List Int) (n : Nat) : List Value := cH (A W (hOf l)) (IntKind.i64.wrap (intAt l 70 + (n : Int)))
def s28 (E : ET) (l : List Value) : Prop := E = DS ∧ 0 ≤ intAt l 70 ∧ intAt l 70 ≤ 1152921504606846976 ∧ intAt l 64 = (((intAt l 70).toNat % 64 : Nat) : Int)
def v28 (E : ET) (l : List Value) : sw.N5 := E (hOf l) (intAt l 70).toNat
def b9 (KF : KT') (W : List Int) (n c : Nat) : Prop := KF = kb ∧ Byt W ∧ n = W.length ∧ 0 < n ∧ n ≤ c ∧ n ≤ 1048576
def q1 (KF : KT') (A : AT) (W : List Int) : List Value := g36 A l0 (xl (KF W) 54) 64
def q2 (KF : KT') (A : AT) (W X : List Int) (m : Nat) : List Value := g36 A (q1 KF A W) X m
def q3 (KF : KT') (A : AT) (W : List Int) : List Value := g36 A l0 (xl (KF W) 92) 64
def q4 (KF : KT') (A : AT) (W Y : List Int) : List Value := g36 A (q3 KF A W) Y 20
def o12 : List (Option Bool) := List.replicate 5 none ++ [some true]
def p12ii (KF : KT') (A : AT) (E : ET) (K : List Int) (n c : Nat) (M : List Int) (m d : Nat) : Prop :=
  (((((((True ∧ b9 KF (Kw K n) n c) ∧ w36 A l0 (xl (KF (Kw K n)) 54) 64 64) ∧ decide ((m : Int) > 0) = true) ∧ w36 A (q1 KF A (Kw K n)) (Kw M m) m d) ∧ s28 E (q2 KF A (Kw K n) (Kw M m) m)) ∧
    w36 A l0 (xl (KF (Kw K n)) 92) 64 64) ∧ w36 A (q3 KF A (Kw K n)) (ot1 (v28 E (q2 KF A (Kw K n) (Kw M m) m))) 20 20) ∧ s28 E (q4 KF A (Kw K n) (ot1 (v28 E (q2 KF A (Kw K n) (Kw M m) m))))
theorem n12ii (KF : KT') (D : DT) (A : AT) (E : ET) (K : List Int) (n c : Nat) (M : List Int) (m d : Nat) : (r12 KF D A E (v1 0 n c) (v1 2 m d) (oM K) (oM M) o12).map (fun r => r.2.obl) = some (p12ii KF A E K n c M m d) := by kernel_rfl
end
end hd
end Go.Proofs.Ytmgnpfapigenpaa
namespace Go.Proofs.Ytmgnpfapigenpaa
open Go.ChangeShapes Go.WideShapes Go.ChangeAt Go.RowKit Go.Cln
namespace hd
open hc hx hy hz tb tc td ha
set_option linter.unusedVariables false
noncomputable section
def x12 (A : AT) (E : ET) (KF : KT') (W : List Int) (l : List Value) : Prop := (((True ∧ s28 E l) ∧ w36 A l0 (xl (KF W) 92) 64 64) ∧ w36 A (q3 KF A W) (ot1 (v28 E l)) 20 20) ∧ s28 E (q4 KF A W (ot1 (v28 E l)))
def y12 (A : AT) (E : ET) (KF : KT') (W : List Int) (l : List Value) : Value := .tuple #[outV (v28 E (q4 KF A W (ot1 (v28 E l)))), .int .i64 0]
def P12ii (KF : KT') (A : AT) (E : ET) (K : List Int) (n c : Nat) (M : List Int) (m d : Nat) : Prop := (((((((True ∧ b9 KF (Kw K n) n c) ∧ w36 A l0 (xl (KF (Kw K n)) 54) 64 64) ∧ decide ((m : Int) > 0) = true) ∧ w36 A (q1 KF A (Kw K n)) (Kw M m) m d) ∧ s28 E (q2 KF A (Kw K n) (Kw M m) m)) ∧ w36 A l0 (xl (KF (Kw K n)) 92) 64 64) ∧ w36 A (q3 KF A (Kw K n)) (ot1 (v28 E (q2 KF A (Kw K n) (Kw M m) m))) 20 20) ∧ s28 E (q4 KF A (Kw K n) (ot1 (v28 E (q2 KF A (Kw K n) (Kw M m) m))))
def h12ii (K : List Int) (n c : Nat) (M : List Int) (m d : Nat) : List (Option Ob) := oM K :: some (.cells (.lit [.slice (some ⟨2, 0, some 1⟩) m d]) 22) :: oM M :: ha.nn 115
theorem N12ii (KF : KT') (D : DT) (A : AT) (E : ET) (K : List Int) (n c : Nat) (M : List Int) (m d : Nat) : (r12 KF D A E (v1 0 n c) (v1 2 m d) (oM K) (oM M) o12).map (fun r => (r.1, r.2.obl, r.2.next, keepL (true :: true :: true :: List.replicate 115 false) r.2.heap.get 0)) = some (y12 A E KF (Kw K n) (q2 KF A (Kw K n) (Kw M m) m), P12ii KF A E K n c M m d, (h12ii K n c M m d).length, h12ii K n c M m d) := by kernel_rfl
def P12ie (KF : KT') (A : AT) (E : ET) (K : List Int) (n c : Nat) (d : Nat) : Prop := (((((True ∧ b9 KF (Kw K n) n c) ∧ w36 A l0 (xl (KF (Kw K n)) 54) 64 64) ∧ s28 E (q1 KF A (Kw K n))) ∧ w36 A l0 (xl (KF (Kw K n)) 92) 64 64) ∧ w36 A (q3 KF A (Kw K n)) (ot1 (v28 E (q1 KF A (Kw K n)))) 20 20) ∧ s28 E (q4 KF A (Kw K n) (ot1 (v28 E (q1 KF A (Kw K n)))))
def h12ie (K : List Int) (n c : Nat) (d : Nat) : List (Option Ob) := oM K :: some (.cells (.lit [.slice (some ⟨2, 0, none⟩) 0 d]) 22) :: none :: ha.nn 108
theorem N12ie (KF : KT') (D : DT) (A : AT) (E : ET) (K : List Int) (n c : Nat) (d : Nat) : (r12 KF D A E (v1 0 n c) (vs 2 0 d) (oM K) none []).map (fun r => (r.1, r.2.obl, r.2.next, keepL (true :: true :: false :: List.replicate 108 false) r.2.heap.get 0)) = some (y12 A E KF (Kw K n) (q1 KF A (Kw K n)), P12ie KF A E K n c d, (h12ie K n c d).length, h12ie K n c d) := by kernel_rfl
def P12ei (KF : KT') (A : AT) (E : ET) (c : Nat) (M : List Int) (m d : Nat) : Prop := (((((((True ∧ KF = kb) ∧ w36 A l0 (xl (KF []) 54) 64 64) ∧ decide ((m : Int) > 0) = true) ∧ w36 A (q1 KF A []) (Kw M m) m d) ∧ s28 E (q2 KF A [] (Kw M m) m)) ∧ w36 A l0 (xl (KF []) 92) 64 64) ∧ w36 A (q3 KF A []) (ot1 (v28 E (q2 KF A [] (Kw M m) m))) 20 20) ∧ s28 E (q4 KF A [] (ot1 (v28 E (q2 KF A [] (Kw M m) m))))
def h12ei (c : Nat) (M : List Int) (m d : Nat) : List (Option Ob) := none :: some (.cells (.lit [.slice (some ⟨2, 0, some 1⟩) m d]) 22) :: oM M :: ha.nn 86
theorem N12ei (KF : KT') (D : DT) (A : AT) (E : ET) (c : Nat) (M : List Int) (m d : Nat) : (r12 KF D A E (vs 0 0 c) (v1 2 m d) none (oM M) o12).map (fun r => (r.1, r.2.obl, r.2.next, keepL (false :: true :: true :: List.replicate 86 false) r.2.heap.get 0)) = some (y12 A E KF [] (q2 KF A [] (Kw M m) m), P12ei KF A E c M m d, (h12ei c M m d).length, h12ei c M m d) := by kernel_rfl
def P12ee (KF : KT') (A : AT) (E : ET) (c : Nat) (d : Nat) : Prop := (((((True ∧ KF = kb) ∧ w36 A l0 (xl (KF []) 54) 64 64) ∧ s28 E (q1 KF A [])) ∧ w36 A l0 (xl (KF []) 92) 64 64) ∧ w36 A (q3 KF A []) (ot1 (v28 E (q1 KF A []))) 20 20) ∧ s28 E (q4 KF A [] (ot1 (v28 E (q1 KF A []))))
def h12ee (c : Nat) (d : Nat) : List (Option Ob) := none :: some (.cells (.lit [.slice (some ⟨2, 0, none⟩) 0 d]) 22) :: none :: ha.nn 79
theorem N12ee (KF : KT') (D : DT) (A : AT) (E : ET) (c : Nat) (d : Nat) : (r12 KF D A E (vs 0 0 c) (vs 2 0 d) none none []).map (fun r => (r.1, r.2.obl, r.2.next, keepL (false :: true :: false :: List.replicate 79 false) r.2.heap.get 0)) = some (y12 A E KF [] (q1 KF A []), P12ee KF A E c d, (h12ee c d).length, h12ee c d) := by kernel_rfl
end
end hd
end Go.Proofs.Ytmgnpfapigenpaa
namespace Go.Proofs.Ytmgnpfapigenpaa
open Go.ChangeShapes Go.WideShapes Go.ChangeAt Go.RowKit Go.Cln
namespace hd
open hc hx hy hz tb tc td ha
set_option linter.unusedVariables false
noncomputable section
/-- a hash that has taken these bytes -/
def Hs (l : List Value) (M : List Int) : Prop := SemH (hOf l) M ∧ intAt l 70 = ((M.length : Nat) : Int) ∧ intAt l 64 = ((M.length % 64 : Nat) : Int) ∧ M.length ≤ 1000000 ∧ Byt M
theorem Hs.zero : Hs l0 [] := ⟨SemH.zero, rfl, rfl, by decide, fun x hx => by cases hx⟩
theorem Hs.add {l : List Value} {M X : List Int} {n : Nat} (h : Hs l M) (hX : Byt X) (hn : n = X.length) (hb : M.length + n ≤ 1000000) : Hs (g36 AB l X n) (M ++ X) := by
  obtain ⟨k1, k2, k3, k4, k5⟩ := h
  have s1 := k1.AB k5 hX
  refine ⟨s1.cells _, ?_, ?_, by rw [List.length_append]; omega, byt_app k5 hX⟩
  · show IntKind.i64.wrap (intAt l 70 + (n : Int)) = _
    rw [k2, IntKind.wrap_i64, List.length_append]; omega
  · show (AB X (hOf l)).rn = _
    exact s1.rn
theorem Hs.w {l : List Value} {M X : List Int} {n c : Nat} (h : Hs l M) (hn : n = X.length) (hc : n ≤ c) : w36 AB l X n c := by
  obtain ⟨k1, k2, k3, k4, k5⟩ := h
  exact ⟨rfl, by rw [k3]; omega, by rw [k3]; omega, hn, hc⟩
theorem Hs.s {l : List Value} {M : List Int} (h : Hs l M) : s28 DS l := by
  obtain ⟨k1, k2, k3, k4, k5⟩ := h
  exact ⟨rfl, by rw [k2]; omega, by rw [k2]; omega, by rw [k3, k2, Int.toNat_natCast]⟩
theorem Hs.v {l : List Value} {M : List Int} (h : Hs l M) : v28 DS l = shaN M := by
  obtain ⟨k1, k2, k3, k4, k5⟩ := h
  unfold v28
  rw [k2, Int.toNat_natCast]
  exact k1.DS k5
theorem xl_len (B : List Int) (p : Int) : (xl B p).length = 64 := by unfold xl; simp
theorem xl_byt (B : List Int) (p : Int) : Byt (xl B p) := fun x hx => by
  unfold xl at hx
  obtain ⟨j, _, rfl⟩ := List.mem_map.1 hx
  unfold xorI
  rw [IntKind.wrap_u8]; omega
theorem ot_len (X : sw.N5) : (ot1 X).length = 20 := rfl
theorem ot_byt (X : sw.N5) : Byt (ot1 X) := fun x hx => by
  have key : ∀ (l : List Int), (∀ y ∈ l, ∃ z, y = IntKind.u8.wrap z) → Byt l := fun l h y hy => by
    obtain ⟨z, rfl⟩ := h y hy
    rw [IntKind.wrap_u8]; omega
  revert x hx
  refine key _ fun y hy => ?_
  unfold ot1 be4 at hy
  simp only [List.mem_append, List.mem_cons, List.not_mem_nil, or_false] at hy
  rcases hy with h | h | h | h | h <;> (rcases h with rfl | rfl | rfl | rfl <;> exact ⟨_, rfl⟩)
theorem hs1 (W : List Int) : Hs (q1 kb AB W) (xl (kb W) 54) := by
  have := Hs.zero.add (X := xl (kb W) 54) (n := 64) (xl_byt _ _) (xl_len _ _).symm (by decide)
  exact this
theorem hs2 {W X : List Int} {m : Nat} (hX : Byt X) (hm : m = X.length) (h : m ≤ 10000) : Hs (q2 kb AB W X m) (xl (kb W) 54 ++ X) :=
  (hs1 W).add hX hm (by rw [xl_len]; omega)
theorem hs3 (W : List Int) : Hs (q3 kb AB W) (xl (kb W) 92) := by
  have := Hs.zero.add (X := xl (kb W) 92) (n := 64) (xl_byt _ _) (xl_len _ _).symm (by decide)
  exact this
theorem hs4 (W : List Int) (Y : sw.N5) : Hs (q4 kb AB W (ot1 Y)) (xl (kb W) 92 ++ ot1 Y) :=
  (hs3 W).add (ot_byt Y) rfl (by rw [xl_len]; decide)
/-- the second half of a tag: what is asked, what it answers -/
theorem rest_ok {W M : List Int} {l : List Value} {p : Prop} (h : Hs l M) (hp : p) :
    (((p ∧ s28 DS l) ∧ w36 AB l0 (xl (kb W) 92) 64 64) ∧ w36 AB (q3 kb AB W) (ot1 (v28 DS l)) 20 20) ∧ s28 DS (q4 kb AB W (ot1 (v28 DS l))) :=
  ⟨⟨⟨⟨hp, h.s⟩, Hs.zero.w (xl_len _ _).symm (Nat.le_refl _)⟩, (hs3 W).w rfl (Nat.le_refl _)⟩, (hs4 W _).s⟩
theorem tag_eq {W M : List Int} {l : List Value} (h : Hs l M) : y12 AB DS kb W l = .tuple #[outV (tgD kb shaN W M), .int .i64 0] := by
  unfold y12 tgD
  rw [h.v, (hs4 W _).v]
end
end hd
end Go.Proofs.Ytmgnpfapigenpaa
namespace Go.Proofs.Ytmgnpfapigenpaa
open Go.ChangeShapes Go.WideShapes Go.ChangeAt Go.RowKit Go.Cln
namespace hd
open hc hx hy hz tb tc td ha
set_option linter.unusedVariables false
noncomputable section
theorem Kw_eq {L : List Int} {n : Nat} (h : n = L.length) : Kw L n = L := by unfold Kw; rw [List.drop_zero, h, List.take_length]
/-- a tag, as the document says it -/
def tgN (K M : List Int) : sw.N5 := tgD kb shaN K (xl (kb K) 54 ++ M)
def tgV (K M : List Int) : Value := .tuple #[outV (tgN K M), .int .i64 0]
def part (y : Value) : Option Ob := some (.cells (.lit [y]) 22)
def ps : Value := .slice (some ⟨1, 0, none⟩) 1 1
theorem t12ii (K : List Int) (n c : Nat) (M : List Int) (m d : Nat) (hK : Byt K) (hn : n = K.length) (h0 : 0 < n) (hc : n ≤ c) (h1 : n ≤ 1000) (hM : Byt M) (hm : m = M.length) (g0 : 0 < m) (hd : m ≤ d) (g1 : m ≤ 1000) :
    CallOk Try.prog 12 [v1 0 n c, ps] (smSt 3 [oM K, part (v1 2 m d), oM M] []) (tgV K M) (smSt 3 (h12ii K n c M m d) []) := by
  have e1 := Kw_eq hn
  have e2 := Kw_eq hm
  have hh : Hs (q2 kb AB (Kw K n) (Kw M m) m) (xl (kb K) 54 ++ M) := by rw [e1, e2]; exact hs2 hM hm (by omega)
  have hp : P12ii kb AB DS K n c M m d := by
    refine rest_ok hh ⟨⟨⟨⟨trivial, rfl, ?_, ?_, h0, hc, by omega⟩, Hs.zero.w (xl_len _ _).symm (Nat.le_refl _)⟩, by rw [decide_eq_true_eq]; omega⟩, (hs1 _).w (by rw [e2]; exact hm) hd⟩
    · rw [e1]; exact hK
    · rw [e1]; exact hn
  have := frame_by sw.pg (KT_ok kb shaN AB DS) _ (N12ii kb shaN AB DS K n c M m d) hp (by rfl) rfl
  rw [tag_eq hh, e1] at this
  exact this
theorem t12ie (K : List Int) (n c d : Nat) (hK : Byt K) (hn : n = K.length) (h0 : 0 < n) (hc : n ≤ c) (h1 : n ≤ 1000) :
    CallOk Try.prog 12 [v1 0 n c, ps] (smSt 3 [oM K, part (vs 2 0 d), none] []) (tgV K []) (smSt 3 (h12ie K n c d) []) := by
  have e1 := Kw_eq hn
  have hh : Hs (q1 kb AB (Kw K n)) (xl (kb K) 54 ++ []) := by rw [e1, List.append_nil]; exact hs1 K
  have hp : P12ie kb AB DS K n c d := by
    refine rest_ok hh ⟨⟨trivial, rfl, ?_, ?_, h0, hc, by omega⟩, Hs.zero.w (xl_len _ _).symm (Nat.le_refl _)⟩
    · rw [e1]; exact hK
    · rw [e1]; exact hn
  have := frame_by sw.pg (KT_ok kb shaN AB DS) _ (N12ie kb shaN AB DS K n c d) hp (by rfl) rfl
  rw [tag_eq hh, e1] at this
  exact this
theorem t12ei (c : Nat) (M : List Int) (m d : Nat) (hM : Byt M) (hm : m = M.length) (g0 : 0 < m) (hd : m ≤ d) (g1 : m ≤ 1000) :
    CallOk Try.prog 12 [vs 0 0 c, ps] (smSt 3 [none, part (v1 2 m d), oM M] []) (tgV [] M) (smSt 3 (h12ei c M m d) []) := by
  have e2 := Kw_eq hm
  have hh : Hs (q2 kb AB [] (Kw M m) m) (xl (kb []) 54 ++ M) := by rw [e2]; exact hs2 hM hm (by omega)
  have hp : P12ei kb AB DS c M m d := by
    refine rest_ok hh ⟨⟨⟨⟨trivial, rfl⟩, Hs.zero.w (xl_len _ _).symm (Nat.le_refl _)⟩, by rw [decide_eq_true_eq]; omega⟩, (hs1 _).w (by rw [e2]; exact hm) hd⟩
  have := frame_by sw.pg (KT_ok kb shaN AB DS) _ (N12ei kb shaN AB DS c M m d) hp (by rfl) rfl
  rw [tag_eq hh] at this
  exact this
theorem t12ee (c d : Nat) : CallOk Try.prog 12 [vs 0 0 c, ps] (smSt 3 [none, part (vs 2 0 d), none] []) (tgV [] []) (smSt 3 (h12ee c d) []) := by
  have hh : Hs (q1 kb AB []) (xl (kb []) 54 ++ []) := by rw [List.append_nil]; exact hs1 []
  have hp : P12ee kb AB DS c d := rest_ok hh ⟨⟨trivial, rfl⟩, Hs.zero.w (xl_len _ _).symm (Nat.le_refl _)⟩
  have := frame_by sw.pg (KT_ok kb shaN AB DS) _ (N12ee kb shaN AB DS c d) hp (by rfl) rfl
  rw [tag_eq hh] at this
  exact this
end
end hd
end Go.Proofs.Ytmgnpfapigenpaa
