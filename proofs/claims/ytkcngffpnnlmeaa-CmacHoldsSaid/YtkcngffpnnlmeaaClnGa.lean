/- Read off the code by the clean reading. -/
import Derived.Test.YtkcngffpnnlmeaaClnEq
import Derived.Test.YtkcngffpnnlmeaaClnQc
set_option linter.unusedVariables false
set_option linter.unusedSimpArgs false
set_option linter.deprecated false
set_option maxRecDepth 100000
namespace Go.Proofs.Ytkcngffpnnlmeaa
open Go.ChangeShapes Go.WideShapes Go.ChangeAt Go.RowKit Go.Cln
namespace ga
open ae
set_option linter.unusedVariables false
noncomputable section
def FD (D : Nat → List Int) (g P : Nat) : Cells := match Nat.beq g 1000 with
  | true => .ints .u8 (D P)
  | false => .lit []
def ab (P o n c : Nat) : Value := .slice (some ⟨P, o, some 1000⟩) n c
def KI : Given := { Given.nothing with fits := true }
theorem KI_ok : GivenOk Try.prog KI := frames_fits (GivenOk.nothing _) true
def cE (D : Nat → List Int) (P o n c : Nat) (r : List (Option Bool)) : Option (Value × St) := (mk Try.prog KI 200).call 30 [sl 1 0 none 2 2] (smSt 2 [some (.fam (FD D)), some (.cells (.lit [.slice none 0 0, ab P o n c]) 22)] r)
def cR (D : Nat → List Int) (P o n c : Nat) (L : List Int) (a d : Nat) (r : List (Option Bool)) : Option (Value × St) := (mk Try.prog KI 200).call 30 [sl 1 0 none 2 2] (smSt 3 [some (.fam (FD D)), some (.cells (.lit [sl 2 0 (some 1) a d, ab P o n c]) 22), some (.cells (.ints .u8 L) 5)] r)
end
end ga
end Go.Proofs.Ytkcngffpnnlmeaa
namespace Go.Proofs.Ytkcngffpnnlmeaa
open Go.ChangeShapes Go.WideShapes Go.ChangeAt Go.RowKit Go.Cln
namespace ga
open ae
set_option linter.unusedVariables false
noncomputable section
def oE : List (Option Bool) := [none, none, none, none, none, none, none, some true, none, none, none, none, none, some true, some true, some true, some true, none, none, none, none, none, none, some true]
def zE (n : Nat) : Nat := (IntKind.i64.wrap (IntKind.i64.wrap (0 + nI 0) + nI n - IntKind.i64.wrap (nI 0 - nI 0))).toNat
def hE (D : Nat → List Int) (P o n c : Nat) : List (Option Ob) := [some (.fam (FD D)), some (.cells (.lit [.slice none 0 0, ab P o n c]) 22)]
def hE2 (D : Nat → List Int) (P o n c : Nat) (I : List Int) : List (Option Ob) := [some (.fam (FD D)), some (.cells (.lit [.slice none 0 0, ab P o n c]) 22), some (.cells (.ints .u8 I) 5)]
def iE (D : Nat → List Int) (P o n : Nat) : List Int := layI (layI (List.replicate (zE n) 0) (0 + 0) []) (0 + 0) (List.take n (List.drop o (D P)))
def pE (D : Nat → List Int) (P o n : Nat) : Prop := ((((((((True ∧ IntKind.i64.wrap (IntKind.i64.wrap (0 + nI 0) + nI n) = IntKind.i64.wrap (0 + nI 0) + nI n) ∧ IntKind.i64.wrap (IntKind.i64.wrap (0 + nI 0) + nI n - IntKind.i64.wrap (nI 0 - nI 0)) = IntKind.i64.wrap (0 + nI 0) + nI n - IntKind.i64.wrap (nI 0 - nI 0)) ∧ decide (IntKind.i64.wrap (0 + nI 0) + nI n - IntKind.i64.wrap (nI 0 - nI 0) > 0) = true) ∧ (1 ≤ IntKind.i64.wrap (IntKind.i64.wrap (0 + nI 0) + nI n - IntKind.i64.wrap (nI 0 - nI 0)) ∧ zE n * 1 ≤ mostBytes ∧ zE n ≤ mostBytes)) ∧ (0 ≤ nI 0 ∧ nI 0 ≤ nI (zE n) ∧ (0 : Int) ≤ 0 ∧ 0 ≤ nI 0)) ∧ (0 = 0 ∧ 0 + 0 ≤ (List.replicate (zE n) (0 : Int)).length)) ∧ decide (0 + n ≤ zE n) = true) ∧ ((n = 0 ∨ o + n ≤ (D P).length) ∧ 0 + 0 + n ≤ (layI (List.replicate (zE n) 0) (0 + 0) []).length))
theorem runE (D : Nat → List Int) (P o n c : Nat) : (cE D P o n c oE).map (fun r => (r.1, r.2.obl, r.2.next, keepL [true, true, true] r.2.heap.get 0)) = some (sl 2 0 (some 1) (0 + n) (zE n), pE D P o n, (hE2 D P o n c (iE D P o n)).length, hE2 D P o n c (iE D P o n)) := by kernel_rfl
theorem runE0 (D : Nat → List Int) (P o c : Nat) : (cE D P o 0 c []).map (fun r => (r.1, r.2.obl, r.2.next, keepL [true, true] r.2.heap.get 0)) = some (.slice none 0 0, True ∧ (0 + 0 = 0 ∧ 0 = 0 ∧ (0 = 0 ∨ o + 0 ≤ (D P).length)), (hE D P o 0 c).length, hE D P o 0 c) := by kernel_rfl
def oR : List (Option Bool) := [none, none, some true, none, none, none, none, some true, none, none, none, none, some true, some true, some true, some true, none, none, none, some true, none, none, none, some true]
def zR (a n : Nat) : Nat := (IntKind.i64.wrap (0 + nI a + nI n - (nI 0 - nI 0))).toNat
def hR' (D : Nat → List Int) (P o n c : Nat) (L : List Int) (a d : Nat) : List (Option Ob) := [some (.fam (FD D)), some (.cells (.lit [sl 2 0 (some 1) a d, ab P o n c]) 22), some (.cells (.ints .u8 L) 5)]
def hR2 (D : Nat → List Int) (P o n c : Nat) (L : List Int) (a d : Nat) (I : List Int) : List (Option Ob) := [some (.fam (FD D)), some (.cells (.lit [sl 2 0 (some 1) a d, ab P o n c]) 22), some (.cells (.ints .u8 L) 5), some (.cells (.ints .u8 I) 5)]
def iR (D : Nat → List Int) (P o n : Nat) (L : List Int) (a : Nat) : List Int := layI (layI (List.replicate (zR a n) 0) (0 + 0) (List.take a (List.drop 0 L))) (0 + (0 + a)) (List.take n (List.drop o (D P)))
def pR (D : Nat → List Int) (P o n : Nat) (L : List Int) (a : Nat) : Prop := (((((((((True ∧ IntKind.i64.wrap (0 + nI a) = 0 + nI a) ∧ IntKind.i64.wrap (0 + nI a + nI n) = 0 + nI a + nI n) ∧ IntKind.i64.wrap (nI 0 - nI 0) = nI 0 - nI 0) ∧ (IntKind.i64.wrap (0 + nI a + nI n - (nI 0 - nI 0))) = (0 + nI a + nI n - (nI 0 - nI 0))) ∧ decide ((0 + nI a + nI n - (nI 0 - nI 0)) > 0) = true) ∧ (1 ≤ (IntKind.i64.wrap (0 + nI a + nI n - (nI 0 - nI 0))) ∧ zR a n * 1 ≤ mostBytes ∧ zR a n ≤ mostBytes)) ∧ decide (0 + a ≤ zR a n) = true) ∧ (0 + a ≤ L.length ∧ 0 + 0 + a ≤ (List.replicate (zR a n) (0 : Int)).length)) ∧ decide (0 + a + n ≤ zR a n) = true) ∧ ((n = 0 ∨ o + n ≤ (D P).length) ∧ 0 + (0 + a) + n ≤ (layI (List.replicate (zR a n) 0) (0 + 0) (List.take a (List.drop 0 L))).length)
theorem runR (D : Nat → List Int) (P o n c : Nat) (L : List Int) (a d : Nat) : (cR D P o n c L a d oR).map (fun r => (r.1, r.2.obl, r.2.next, keepL [true, true, true, true] r.2.heap.get 0)) = some (sl 3 0 (some 1) (0 + a + n) (zR a n), pR D P o n L a, (hR2 D P o n c L a d (iR D P o n L a)).length, hR2 D P o n c L a d (iR D P o n L a)) := by kernel_rfl
def wa (D : List Int) (o n : Nat) : List Int := (D.drop o).take n
theorem zE_eq {n : Nat} (h : n ≤ 1000000) : zE n = n := by
  unfold zE
  simp only [nI, IntKind.wrap_i64]
  omega
theorem zR_eq {a n : Nat} (h : n ≤ 1000000) (g : a ≤ 1000000) : zR a n = a + n := by
  unfold zR
  simp only [nI, IntKind.wrap_i64]
  omega
theorem lay_len (L : List Int) (o : Nat) (r : List Int) (h : o + r.length ≤ L.length) : (layI L o r).length = L.length := by
  unfold layI
  simp only [List.length_append, List.length_take, List.length_drop]
  omega
theorem iE_eq {D : Nat → List Int} {P o n : Nat} (h : n ≤ 1000000) (hL : (wa (D P) o n).length = n) : iE D P o n = wa (D P) o n := by
  have h2 : (List.take n (List.drop o (D P))).length = n := hL
  unfold iE wa
  rw [zE_eq h]
  unfold layI
  simp [h2]
theorem iR_eq {D : Nat → List Int} {P o n a : Nat} {L : List Int} (h : n ≤ 1000000) (g : a ≤ 1000000) (hL : (wa (D P) o n).length = n) (ha : L.length = a) : iR D P o n L a = L ++ wa (D P) o n := by
  have h2 : (List.take n (List.drop o (D P))).length = n := hL
  unfold iR wa
  rw [zR_eq h g, List.drop_zero, List.take_of_length_le (by omega : L.length ≤ a)]
  unfold layI
  simp [h2, ha]
theorem wa_mem {L : List Int} {o n : Nat} (h : (wa L o n).length = n) : n = 0 ∨ o + n ≤ L.length := by
  unfold wa at h
  rw [List.length_take, List.length_drop] at h
  omega
theorem pE_ok {D : Nat → List Int} {P o n : Nat} (h0 : 0 < n) (h : n ≤ 1000000) (hL : (wa (D P) o n).length = n) : pE D P o n := by
  have hm := wa_mem hL
  unfold pE
  rw [zE_eq h, lay_len _ _ _ (by simp)]
  simp only [nI, IntKind.wrap_i64, decide_eq_true_eq, mostBytes, List.length_replicate]
  repeat' apply And.intro
  all_goals first | exact True.intro | exact hm | omega
theorem pR_ok {D : Nat → List Int} {P o n a : Nat} {L : List Int} (h0 : 0 < a) (g : a ≤ 1000000) (h : n ≤ 1000000) (hL : (wa (D P) o n).length = n) (ha : L.length = a) : pR D P o n L a := by
  have hm := wa_mem hL
  unfold pR
  have e0 : List.take a (List.drop 0 L) = L := by rw [List.drop_zero]; exact List.take_of_length_le (by omega)
  rw [zR_eq h g, e0, lay_len _ _ _ (by simp; omega)]
  simp only [nI, IntKind.wrap_i64, decide_eq_true_eq, mostBytes, List.length_replicate]
  repeat' apply And.intro
  all_goals first | exact True.intro | exact hm | (simp only [List.length_take, List.length_drop]; omega) | omega
theorem ccE {D : Nat → List Int} {P o n c : Nat} (h0 : 0 < n) (h : n ≤ 1000000) (hL : (wa (D P) o n).length = n) : CallOk Try.prog 30 [sl 1 0 none 2 2] (smSt 2 (hE D P o n c) []) (sl 2 0 (some 1) n n) (smSt 2 (hE2 D P o n c (wa (D P) o n)) []) := by
  have := frame_by pg KI_ok _ (runE D P o n c) (pE_ok h0 h hL) (by rfl) rfl
  rw [iE_eq h hL, zE_eq h, Nat.zero_add] at this
  exact this
theorem ccE0 (D : Nat → List Int) (P o c : Nat) : CallOk Try.prog 30 [sl 1 0 none 2 2] (smSt 2 (hE D P o 0 c) []) (.slice none 0 0) (smSt 2 (hE D P o 0 c) []) :=
  frame_by pg KI_ok _ (runE0 D P o c) ⟨trivial, rfl, rfl, .inl rfl⟩ (by rfl) rfl
theorem ccR {D : Nat → List Int} {P o n c a d : Nat} {L : List Int} (h0 : 0 < a) (g : a ≤ 1000000) (h : n ≤ 1000000) (hL : (wa (D P) o n).length = n) (ha : L.length = a) : CallOk Try.prog 30 [sl 1 0 none 2 2] (smSt 3 (hR' D P o n c L a d) []) (sl 3 0 (some 1) (a + n) (a + n)) (smSt 3 (hR2 D P o n c L a d (L ++ wa (D P) o n)) []) := by
  have := frame_by pg KI_ok _ (runR D P o n c L a d) (pR_ok h0 g h hL ha) (by rfl) rfl
  rw [iR_eq h g hL ha, zR_eq h g, Nat.zero_add] at this
  exact this
end
end ga
end Go.Proofs.Ytkcngffpnnlmeaa
namespace Go.Proofs.Ytkcngffpnnlmeaa
open Go.ChangeShapes Go.WideShapes Go.ChangeAt Go.RowKit Go.Cln
namespace ga
open ae
set_option linter.unusedVariables false
noncomputable section
def EHe (D : Nat → List Int) (ks f1 f2 x : Nat → Int) (A : List Int) (o n c : Nat) : Nat → Option Ob := fun i => match i with
  | 0 => some (.fam (FD D))
  | 1 => some (.cells (.lit (rowV .u8 176 ks ++ [.bool true])) 84)
  | 2 => some (.cells (.lit (.pointer (some ⟨1, 0, none⟩) :: (rowV .u8 16 f1 ++ (rowV .u8 16 f2 ++ (rowV .u8 16 x ++ [.slice none 0 0]))))) 70)
  | 3 => some (.cells (.lit ([.pointer (some ⟨2, 0, none⟩)])) 44)
  | 5 => some (.cells (.ints .u8 A) 5)
  | 6 => some (.cells (.lit [.slice (some ⟨5, o, some 1⟩) n c]) 22)
  | 7 => some (.marks)
  | 8 => some (.loop ⟨.ready, none, [.pointer (some ⟨2, 0, none⟩), junk, .pointer (some ⟨3, 0, none⟩), undef, .int .i64 0, undef, undef, .pointer (some ⟨2, 0, none⟩), .bool false, .pointer (some ⟨2, 0, none⟩), .pointer (some ⟨2, 0, none⟩), .pointer (some ⟨2, 49, none⟩)] ++ J 4 ++ [.func (.func 43) #[] #[.pointer (some ⟨6, 0, none⟩)]] ++ U 25, #[17, 18], (rngAt Try.prog 18 0).2.1, (rngAt Try.prog 18 0).2.2, 7⟩)
  | _ => none
def Ee (D : Nat → List Int) (ks f1 f2 x : Nat → Int) (A : List Int) (o n c : Nat) : St := ⟨[.func (.yield 8) #[] #[], .pointer (some ⟨6, 0, none⟩)] ++ U 19, [], Tr.rebuild (EHe D ks f1 f2 x A o n c) 9, 9, 2, [], fun _ => false, True, []⟩
def RHe (D : Nat → List Int) (ks f1 f2 x : Nat → Int) (A : List Int) (o n c : Nat) : Nat → Option Ob := fun i => match i with
  | 0 => some (.fam (FD D))
  | 1 => some (.cells (.lit (rowV .u8 176 ks ++ [.bool true])) 84)
  | 2 => some (.cells (.lit (.pointer (some ⟨1, 0, none⟩) :: (rowV .u8 16 f1 ++ (rowV .u8 16 f2 ++ (rowV .u8 16 x ++ [.slice none 0 0]))))) 70)
  | 3 => some (.cells (.lit ([.pointer (some ⟨2, 0, none⟩)])) 44)
  | 5 => some (.cells (.ints .u8 A) 5)
  | 6 => some (.cells (.lit [.slice (some ⟨5, o, some 1⟩) n c]) 22)
  | 7 => some (.marks)
  | 8 => some (.loop ⟨.ready, none, [.pointer (some ⟨2, 0, none⟩), junk, .pointer (some ⟨3, 0, none⟩), undef, .int .i64 0, undef, undef, .pointer (some ⟨2, 0, none⟩), .bool false, .pointer (some ⟨2, 0, none⟩), .pointer (some ⟨2, 0, none⟩), .pointer (some ⟨2, 49, none⟩)] ++ J 4 ++ [.func (.func 43) #[] #[.pointer (some ⟨6, 0, none⟩)]] ++ U 25, #[17, 18], (rngAt Try.prog 18 0).2.1, (rngAt Try.prog 18 0).2.2, 7⟩)
  | _ => none
def Re (D : Nat → List Int) (ks f1 f2 x : Nat → Int) (A : List Int) (o n c : Nat) : St := ⟨[.func (.yield 8) #[] #[], .pointer (some ⟨6, 0, none⟩), undef, .int .i64 16, junk, junk, .bool true, junk, junk, .int .i64 16, .func (.yield 8) #[] #[]] ++ J 3 ++ [.int .i64 16, junk, .bool true, .bool false, junk, .int .i64 16, junk], [], Tr.rebuild (RHe D ks f1 f2 x A o n c) 9, 9, 2, [], fun _ => false, True, []⟩
def XHe (D : Nat → List Int) (ks f1 f2 x : Nat → Int) (A : List Int) (o n : Nat) : Nat → Option Ob := fun i => match i with
  | 0 => some (.fam (FD D))
  | 1 => some (.cells (.lit (rowV .u8 176 ks ++ [.bool true])) 84)
  | 2 => some (.cells (.lit (.pointer (some ⟨1, 0, none⟩) :: (rowV .u8 16 f1 ++ (rowV .u8 16 f2 ++ (rowV .u8 16 x ++ [.slice (some ⟨10, 0, some 1⟩) (0 + n) (0 + n)]))))) 70)
  | 3 => some (.cells (.lit ([.pointer (some ⟨2, 0, none⟩)])) 44)
  | 5 => some (.cells (.ints .u8 A) 5)
  | 6 => some (.cells (.lit [junk]) 22)
  | 7 => some (.marks)
  | 8 => some (.loop ⟨.done, some (.exit 0), [.pointer (some ⟨2, 0, none⟩), junk, .pointer (some ⟨3, 0, none⟩), undef, .int .i64 0, undef, undef, .pointer (some ⟨2, 0, none⟩), .bool false, .pointer (some ⟨2, 0, none⟩), .pointer (some ⟨2, 0, none⟩), .pointer (some ⟨2, 49, none⟩)] ++ J 4 ++ [.func (.func 43) #[] #[.pointer (some ⟨6, 0, none⟩)]] ++ U 25, #[17, 18], (rngAt Try.prog 18 0).2.1, (rngAt Try.prog 18 0).2.2, 7⟩)
  | 10 => some (.cells (.ints .u8 ((A.drop o).take n)) 5)
  | _ => none
def Xe (D : Nat → List Int) (ks f1 f2 x : Nat → Int) (A : List Int) (o n : Nat) : St := ⟨[.func (.yield 8) #[] #[], .pointer (some ⟨6, 0, none⟩), undef] ++ J 18, [], Tr.rebuild (XHe D ks f1 f2 x A o n) 11, 11, 2, [], fun _ => false, True, []⟩
def EHr (D : Nat → List Int) (M : List Int) (a : Nat) (ks f1 f2 x : Nat → Int) (A : List Int) (o n c : Nat) : Nat → Option Ob := fun i => match i with
  | 0 => some (.fam (FD D))
  | 1 => some (.cells (.lit (rowV .u8 176 ks ++ [.bool true])) 84)
  | 2 => some (.cells (.lit (.pointer (some ⟨1, 0, none⟩) :: (rowV .u8 16 f1 ++ (rowV .u8 16 f2 ++ (rowV .u8 16 x ++ [sl 3 0 (some 1) a a]))))) 70)
  | 3 => some (.cells (.ints .u8 M) 5)
  | 4 => some (.cells (.lit ([.pointer (some ⟨2, 0, none⟩)])) 44)
  | 6 => some (.cells (.ints .u8 A) 5)
  | 7 => some (.cells (.lit [.slice (some ⟨6, o, some 1⟩) n c]) 22)
  | 8 => some (.marks)
  | 9 => some (.loop ⟨.ready, none, [.pointer (some ⟨2, 0, none⟩), junk, .pointer (some ⟨4, 0, none⟩), undef, .int .i64 0, undef, undef, .pointer (some ⟨2, 0, none⟩), .bool false, .pointer (some ⟨2, 0, none⟩), .pointer (some ⟨2, 0, none⟩), .pointer (some ⟨2, 49, none⟩)] ++ J 4 ++ [.func (.func 43) #[] #[.pointer (some ⟨7, 0, none⟩)]] ++ U 25, #[17, 18], (rngAt Try.prog 18 0).2.1, (rngAt Try.prog 18 0).2.2, 8⟩)
  | _ => none
def Er (D : Nat → List Int) (M : List Int) (a : Nat) (ks f1 f2 x : Nat → Int) (A : List Int) (o n c : Nat) : St := ⟨[.func (.yield 9) #[] #[], .pointer (some ⟨7, 0, none⟩)] ++ U 19, [], Tr.rebuild (EHr D M a ks f1 f2 x A o n c) 10, 10, 2, [], fun _ => false, True, []⟩
def RHr (D : Nat → List Int) (M : List Int) (a : Nat) (ks f1 f2 x : Nat → Int) (A : List Int) (o n c : Nat) : Nat → Option Ob := fun i => match i with
  | 0 => some (.fam (FD D))
  | 1 => some (.cells (.lit (rowV .u8 176 ks ++ [.bool true])) 84)
  | 2 => some (.cells (.lit (.pointer (some ⟨1, 0, none⟩) :: (rowV .u8 16 f1 ++ (rowV .u8 16 f2 ++ (rowV .u8 16 x ++ [sl 3 0 (some 1) a a]))))) 70)
  | 3 => some (.cells (.ints .u8 M) 5)
  | 4 => some (.cells (.lit ([.pointer (some ⟨2, 0, none⟩)])) 44)
  | 6 => some (.cells (.ints .u8 A) 5)
  | 7 => some (.cells (.lit [.slice (some ⟨6, o, some 1⟩) n c]) 22)
  | 8 => some (.marks)
  | 9 => some (.loop ⟨.ready, none, [.pointer (some ⟨2, 0, none⟩), junk, .pointer (some ⟨4, 0, none⟩), undef, .int .i64 0, undef, undef, .pointer (some ⟨2, 0, none⟩), .bool false, .pointer (some ⟨2, 0, none⟩), .pointer (some ⟨2, 0, none⟩), .pointer (some ⟨2, 49, none⟩)] ++ J 4 ++ [.func (.func 43) #[] #[.pointer (some ⟨7, 0, none⟩)]] ++ U 25, #[17, 18], (rngAt Try.prog 18 0).2.1, (rngAt Try.prog 18 0).2.2, 8⟩)
  | _ => none
def Rr (D : Nat → List Int) (M : List Int) (a : Nat) (ks f1 f2 x : Nat → Int) (A : List Int) (o n c : Nat) : St := ⟨[.func (.yield 9) #[] #[], .pointer (some ⟨7, 0, none⟩), undef, .int .i64 16, junk, junk, .bool true, junk, junk, .int .i64 16, .func (.yield 9) #[] #[]] ++ J 3 ++ [.int .i64 16, junk, .bool true, .bool false, junk, .int .i64 16, junk], [], Tr.rebuild (RHr D M a ks f1 f2 x A o n c) 10, 10, 2, [], fun _ => false, True, []⟩
def XHr (D : Nat → List Int) (M : List Int) (a : Nat) (ks f1 f2 x : Nat → Int) (A : List Int) (o n : Nat) : Nat → Option Ob := fun i => match i with
  | 0 => some (.fam (FD D))
  | 1 => some (.cells (.lit (rowV .u8 176 ks ++ [.bool true])) 84)
  | 2 => some (.cells (.lit (.pointer (some ⟨1, 0, none⟩) :: (rowV .u8 16 f1 ++ (rowV .u8 16 f2 ++ (rowV .u8 16 x ++ [.slice (some ⟨11, 0, some 1⟩) (0 + n) (0 + n)]))))) 70)
  | 3 => some (.cells (.ints .u8 M) 5)
  | 4 => some (.cells (.lit ([.pointer (some ⟨2, 0, none⟩)])) 44)
  | 6 => some (.cells (.ints .u8 A) 5)
  | 7 => some (.cells (.lit [junk]) 22)
  | 8 => some (.marks)
  | 9 => some (.loop ⟨.done, some (.exit 0), [.pointer (some ⟨2, 0, none⟩), junk, .pointer (some ⟨4, 0, none⟩), undef, .int .i64 0, undef, undef, .pointer (some ⟨2, 0, none⟩), .bool false, .pointer (some ⟨2, 0, none⟩), .pointer (some ⟨2, 0, none⟩), .pointer (some ⟨2, 49, none⟩)] ++ J 4 ++ [.func (.func 43) #[] #[.pointer (some ⟨7, 0, none⟩)]] ++ U 25, #[17, 18], (rngAt Try.prog 18 0).2.1, (rngAt Try.prog 18 0).2.2, 8⟩)
  | 11 => some (.cells (.ints .u8 ((A.drop o).take n)) 5)
  | _ => none
def Xr (D : Nat → List Int) (M : List Int) (a : Nat) (ks f1 f2 x : Nat → Int) (A : List Int) (o n : Nat) : St := ⟨[.func (.yield 9) #[] #[], .pointer (some ⟨7, 0, none⟩), undef] ++ J 18, [], Tr.rebuild (XHr D M a ks f1 f2 x A o n) 12, 12, 2, [], fun _ => false, True, []⟩
theorem wEe (U : UX) (T : CT) (D : Nat → List Int) (ks f1 f2 x : Nat → Int) (A : List Int) (o n c : Nat) (x0 : Nat → Int) (o0 n0 c0 : Nat) (rd : Option Nat) (hp : pS U T A o n c) :
    Step Try.prog rd (Ee D ks f1 f2 x0 A o0 n0 c0) bW (Ee D ks f1 f2 x A o n c) (fun e s => e = .normal ∧ s = Re D ks f1 f2 (chx U T ks x A o) A (o + 16) (n - 16) (c - 16)) :=
  Step.std pg (KW_ok U T) (n := 200) (f := 43) (σ := []) (o := oS) (n1 := 100) (g := RHe D ks f1 f2 (chx U T ks x A o) A (o + 16) (n - 16) (c - 16)) (by kernel_rfl) hp (Nat.le_refl _) rfl (by kernel_rfl)
theorem wRe (U : UX) (T : CT) (D : Nat → List Int) (ks f1 f2 x : Nat → Int) (A : List Int) (o n c : Nat) (x0 : Nat → Int) (o0 n0 c0 : Nat) (rd : Option Nat) (hp : pS U T A o n c) :
    Step Try.prog rd (Ee D ks f1 f2 x0 A o0 n0 c0) bW (Re D ks f1 f2 x A o n c) (fun e s => e = .normal ∧ s = Re D ks f1 f2 (chx U T ks x A o) A (o + 16) (n - 16) (c - 16)) :=
  Step.std pg (KW_ok U T) (n := 200) (f := 43) (σ := []) (o := oS) (n1 := 100) (g := RHe D ks f1 f2 (chx U T ks x A o) A (o + 16) (n - 16) (c - 16)) (by kernel_rfl) hp (Nat.le_refl _) rfl (by kernel_rfl)
theorem wXe (U : UX) (T : CT) (D : Nat → List Int) (ks f1 f2 x : Nat → Int) (A : List Int) (o n c : Nat) (x0 : Nat → Int) (o0 n0 c0 : Nat) (rd : Option Nat) (hp : pD A o n c) :
    Step Try.prog rd (Ee D ks f1 f2 x0 A o0 n0 c0) bW (Re D ks f1 f2 x A o n c) (fun e s => e = .ret ∧ s = Xe D ks f1 f2 x A o n) :=
  Step.std pg (KW_ok U T) (n := 200) (f := 43) (σ := []) (o := oD) (n1 := 11) (g := XHe D ks f1 f2 x A o n) (by kernel_rfl) hp (Nat.le_refl _) rfl (by kernel_rfl)
theorem loopWre (D : Nat → List Int) (ks f1 f2 x : Nat → Int) (A : List Int) (o c q r : Nat) (hq : 0 < q) (h0 : 0 < r) (h1 : r ≤ 16) (hc : 16 * q + r ≤ c) (hA : o + (16 * q + r) ≤ A.length) (hm : A.length ≤ 1000000) (rd : Option Nat) :
    CodeOk Try.prog rd (.loop bW) (Ee D ks f1 f2 x A o (16 * q + r) c) .ret (Xe D ks f1 f2 (wch ks A q o x) A (o + 16 * q) r) := by
  refine CodeOk.of_step (Step.loop (fun k s => (k = q ∧ s = Ee D ks f1 f2 x A o (16 * q + r) c) ∨ ∃ i, 0 < i ∧ i ≤ q ∧ k = q - i ∧ s = Re D ks f1 f2 (wch ks A i o x) A (o + 16 * i) (16 * q + r - 16 * i) (c - 16 * i)) ?_ q _ (.inl ⟨rfl, rfl⟩))
  have ps : ∀ i, i < q → pS U0 CT0 A (o + 16 * i) (16 * q + r - 16 * i) (c - 16 * i) := fun i hi => by
    refine ⟨⟨⟨⟨⟨⟨⟨⟨trivial, ?_⟩, ?_⟩, ?_⟩, ?_⟩, by omega⟩, rfl⟩, rfl⟩, ?_⟩
    · rw [decide_eq_true_eq]; omega
    · rw [decide_eq_true_eq]; omega
    · omega
    · rw [decide_eq_true_eq]; omega
    · omega
  rintro k s (⟨rfl, rfl⟩ | ⟨i, hi0, hi, rfl, rfl⟩)
  · refine (wEe U0 CT0 D ks f1 f2 x A o (16 * k + r) c x o (16 * k + r) c rd (ps 0 hq)).mono ?_
    rintro e s ⟨rfl, rfl⟩
    exact .inl ⟨rfl, k - 1, by omega, .inr ⟨1, by omega, by omega, rfl, rfl⟩⟩
  · rcases Nat.lt_or_ge i q with h | h
    · refine (wRe U0 CT0 D ks f1 f2 (wch ks A i o x) A (o + 16 * i) (16 * q + r - 16 * i) (c - 16 * i) x o (16 * q + r) c rd (ps i h)).mono ?_
      rintro e s ⟨rfl, rfl⟩
      refine .inl ⟨rfl, q - (i + 1), by omega, .inr ⟨i + 1, by omega, by omega, rfl, ?_⟩⟩
      rw [wch_succ, show o + 16 * i + 16 = o + 16 * (i + 1) by omega, show 16 * q + r - 16 * i - 16 = 16 * q + r - 16 * (i + 1) by omega, show c - 16 * i - 16 = c - 16 * (i + 1) by omega]
    · obtain rfl : i = q := by omega
      have e : 16 * i + r - 16 * i = r := by omega
      rw [e]
      refine (wXe U0 CT0 D ks f1 f2 (wch ks A i o x) A (o + 16 * i) r (c - 16 * i) x o (16 * i + r) c rd ?_).mono ?_
      · refine ⟨⟨⟨⟨⟨⟨trivial, ?_⟩, ?_⟩, by omega⟩, ?_⟩, ?_⟩, by omega, by omega, by unfold mostBytes; omega, by unfold mostBytes; omega⟩
        · rw [decide_eq_true_eq]; omega
        · rw [decide_eq_false_iff_not]; omega
        · rw [decide_eq_false_iff_not]; omega
        · rw [decide_eq_false_iff_not]; omega
      · rintro e s ⟨rfl, rfl⟩
        exact .inr ⟨(by intro x; cases x), rfl, rfl⟩
theorem wEr (U : UX) (T : CT) (D : Nat → List Int) (M : List Int) (a : Nat) (ks f1 f2 x : Nat → Int) (A : List Int) (o n c : Nat) (x0 : Nat → Int) (o0 n0 c0 : Nat) (rd : Option Nat) (hp : pS U T A o n c) :
    Step Try.prog rd (Er D M a ks f1 f2 x0 A o0 n0 c0) bW (Er D M a ks f1 f2 x A o n c) (fun e s => e = .normal ∧ s = Rr D M a ks f1 f2 (chx U T ks x A o) A (o + 16) (n - 16) (c - 16)) :=
  Step.std pg (KW_ok U T) (n := 200) (f := 43) (σ := []) (o := oS) (n1 := 101) (g := RHr D M a ks f1 f2 (chx U T ks x A o) A (o + 16) (n - 16) (c - 16)) (by kernel_rfl) hp (Nat.le_refl _) rfl (by kernel_rfl)
theorem wRr (U : UX) (T : CT) (D : Nat → List Int) (M : List Int) (a : Nat) (ks f1 f2 x : Nat → Int) (A : List Int) (o n c : Nat) (x0 : Nat → Int) (o0 n0 c0 : Nat) (rd : Option Nat) (hp : pS U T A o n c) :
    Step Try.prog rd (Er D M a ks f1 f2 x0 A o0 n0 c0) bW (Rr D M a ks f1 f2 x A o n c) (fun e s => e = .normal ∧ s = Rr D M a ks f1 f2 (chx U T ks x A o) A (o + 16) (n - 16) (c - 16)) :=
  Step.std pg (KW_ok U T) (n := 200) (f := 43) (σ := []) (o := oS) (n1 := 101) (g := RHr D M a ks f1 f2 (chx U T ks x A o) A (o + 16) (n - 16) (c - 16)) (by kernel_rfl) hp (Nat.le_refl _) rfl (by kernel_rfl)
theorem wXr (U : UX) (T : CT) (D : Nat → List Int) (M : List Int) (a : Nat) (ks f1 f2 x : Nat → Int) (A : List Int) (o n c : Nat) (x0 : Nat → Int) (o0 n0 c0 : Nat) (rd : Option Nat) (hp : pD A o n c) :
    Step Try.prog rd (Er D M a ks f1 f2 x0 A o0 n0 c0) bW (Rr D M a ks f1 f2 x A o n c) (fun e s => e = .ret ∧ s = Xr D M a ks f1 f2 x A o n) :=
  Step.std pg (KW_ok U T) (n := 200) (f := 43) (σ := []) (o := oD) (n1 := 12) (g := XHr D M a ks f1 f2 x A o n) (by kernel_rfl) hp (Nat.le_refl _) rfl (by kernel_rfl)
theorem loopWrr (D : Nat → List Int) (M : List Int) (a : Nat) (ks f1 f2 x : Nat → Int) (A : List Int) (o c q r : Nat) (hq : 0 < q) (h0 : 0 < r) (h1 : r ≤ 16) (hc : 16 * q + r ≤ c) (hA : o + (16 * q + r) ≤ A.length) (hm : A.length ≤ 1000000) (rd : Option Nat) :
    CodeOk Try.prog rd (.loop bW) (Er D M a ks f1 f2 x A o (16 * q + r) c) .ret (Xr D M a ks f1 f2 (wch ks A q o x) A (o + 16 * q) r) := by
  refine CodeOk.of_step (Step.loop (fun k s => (k = q ∧ s = Er D M a ks f1 f2 x A o (16 * q + r) c) ∨ ∃ i, 0 < i ∧ i ≤ q ∧ k = q - i ∧ s = Rr D M a ks f1 f2 (wch ks A i o x) A (o + 16 * i) (16 * q + r - 16 * i) (c - 16 * i)) ?_ q _ (.inl ⟨rfl, rfl⟩))
  have ps : ∀ i, i < q → pS U0 CT0 A (o + 16 * i) (16 * q + r - 16 * i) (c - 16 * i) := fun i hi => by
    refine ⟨⟨⟨⟨⟨⟨⟨⟨trivial, ?_⟩, ?_⟩, ?_⟩, ?_⟩, by omega⟩, rfl⟩, rfl⟩, ?_⟩
    · rw [decide_eq_true_eq]; omega
    · rw [decide_eq_true_eq]; omega
    · omega
    · rw [decide_eq_true_eq]; omega
    · omega
  rintro k s (⟨rfl, rfl⟩ | ⟨i, hi0, hi, rfl, rfl⟩)
  · refine (wEr U0 CT0 D M a ks f1 f2 x A o (16 * k + r) c x o (16 * k + r) c rd (ps 0 hq)).mono ?_
    rintro e s ⟨rfl, rfl⟩
    exact .inl ⟨rfl, k - 1, by omega, .inr ⟨1, by omega, by omega, rfl, rfl⟩⟩
  · rcases Nat.lt_or_ge i q with h | h
    · refine (wRr U0 CT0 D M a ks f1 f2 (wch ks A i o x) A (o + 16 * i) (16 * q + r - 16 * i) (c - 16 * i) x o (16 * q + r) c rd (ps i h)).mono ?_
      rintro e s ⟨rfl, rfl⟩
      refine .inl ⟨rfl, q - (i + 1), by omega, .inr ⟨i + 1, by omega, by omega, rfl, ?_⟩⟩
      rw [wch_succ, show o + 16 * i + 16 = o + 16 * (i + 1) by omega, show 16 * q + r - 16 * i - 16 = 16 * q + r - 16 * (i + 1) by omega, show c - 16 * i - 16 = c - 16 * (i + 1) by omega]
    · obtain rfl : i = q := by omega
      have e : 16 * i + r - 16 * i = r := by omega
      rw [e]
      refine (wXr U0 CT0 D M a ks f1 f2 (wch ks A i o x) A (o + 16 * i) r (c - 16 * i) x o (16 * i + r) c rd ?_).mono ?_
      · refine ⟨⟨⟨⟨⟨⟨trivial, ?_⟩, ?_⟩, by omega⟩, ?_⟩, ?_⟩, by omega, by omega, by unfold mostBytes; omega, by unfold mostBytes; omega⟩
        · rw [decide_eq_true_eq]; omega
        · rw [decide_eq_false_iff_not]; omega
        · rw [decide_eq_false_iff_not]; omega
        · rw [decide_eq_false_iff_not]; omega
      · rintro e s ⟨rfl, rfl⟩
        exact .inr ⟨(by intro x; cases x), rfl, rfl⟩
end
end ga
end Go.Proofs.Ytkcngffpnnlmeaa
namespace Go.Proofs.Ytkcngffpnnlmeaa
open Go.ChangeShapes Go.WideShapes Go.ChangeAt Go.RowKit Go.Cln
namespace ga
open ae
set_option linter.unusedVariables false
noncomputable section
def dl (P : Nat) (D : List Int) (Q : Nat) : List Int := if Q = P then D else []
theorem dl_at (P : Nat) (D : List Int) : dl P D P = D := if_pos rfl
def FKc (f : FuncId) (args : List Value) (s : St) : Option (Inst × Nat) := if f == 30 then (match args with
  | [.slice (some ⟨k, 0, none⟩) 2 2] => (match s.heap.get k with
    | some (.cells (.lit [l, .slice (some ⟨P, o, some 1000⟩) n c]) _) => (match s.heap.get 0 with
      | some (.fam F) => (match F 1000 P with
        | .ints .u8 D => (match l with
          | .slice none 0 0 => (match s.orc with
            | some true :: _ => some (⟨[(0, 0), (k, 0)], 2, hE (dl P D) P o n c, [sl 1 0 none 2 2], sl 2 0 (some 1) n n, hE2 (dl P D) P o n c (wa D o n), 0 < n ∧ n ≤ 1000000 ∧ (wa D o n).length = n⟩, 1)
            | some false :: _ => some (⟨[(0, 0), (k, 0)], 2, hE (dl P D) P o n c, [sl 1 0 none 2 2], .slice none 0 0, hE (dl P D) P o n c, n = 0⟩, 1)
            | _ => none)
          | .slice (some ⟨z, 0, some 1⟩) a d => (match s.heap.get z with
            | some (.cells (.ints .u8 L) _) => some (⟨[(0, 0), (k, 0), (z, 0)], 3, hR' (dl P D) P o n c L a d, [sl 1 0 none 2 2], sl 3 0 (some 1) (a + n) (a + n), hR2 (dl P D) P o n c L a d (L ++ wa D o n), 0 < a ∧ a ≤ 1000000 ∧ n ≤ 1000000 ∧ (wa D o n).length = n ∧ L.length = a⟩, 0)
            | _ => none)
          | _ => none)
        | _ => none)
      | _ => none)
    | _ => none)
  | _ => none) else none
theorem fit_fam {m : Nat} {ν δ : Nat → Nat} {F : Nat → Nat → Cells} {P : Nat} {D : List Int} (hD : F 1000 P = .ints .u8 D) : ∀ (g Q i : Nat) (v : Value), (FD (dl P D) g Q).get i = some v → (F g Q).get i = some v := fun g Q i v hv => by
  unfold FD at hv
  split at hv
  · rename_i hg
    have hg' : g = 1000 := by simpa using hg
    subst hg'
    unfold dl at hv
    by_cases h : Q = P
    · subst h; rw [if_pos rfl] at hv; rw [hD]; exact hv
    · rw [if_neg h] at hv; simp [Cells.get] at hv
  · simp [Cells.get] at hv
theorem fit_two {m : Nat} {ν δ : Nat → Nat} {u u' v : Value} (hu : u' = mv ν δ u) (ou : okN m u = true) (hv : v = mv ν δ v) (ov : okN m v = true) :
    ∀ (x : Nat) (y : Value), (Cells.lit [u, v]).get x = some y → ∃ Y, (Cells.lit [u', v]).get (0 + x) = some Y ∧ Y = mv ν δ y ∧ okN m y = true := fun x y hy => by
  rw [Nat.zero_add]
  rcases x with _ | _ | x
  · simp only [Cells.get, List.getElem?_cons_zero, Option.some.injEq] at hy ⊢
    subst hy; exact ⟨_, rfl, hu, ou⟩
  · simp only [Cells.get, List.getElem?_cons_succ, List.getElem?_cons_zero, Option.some.injEq] at hy ⊢
    subst hy; exact ⟨_, rfl, hv, ov⟩
  · simp [Cells.get] at hy
theorem FKc_ok (f : FuncId) (args : List Value) (s : St) (i : Inst) (u : Nat) (h : FKc f args s = some (i, u)) : Fits s i args ∧ (i.ask → CallOk Try.prog f i.args i.s0 i.val i.s1) := by
  unfold FKc at h
  split at h
  · rename_i hf
    have hf' : f = 30 := by simpa using hf
    subst hf'
    split at h
    · rename_i k
      split at h
      · rename_i l P o n c tk hk
        split at h
        · rename_i F hF
          split at h
          · rename_i D hD
            split at h
            · have fitE : ∀ (V : Value) (h' : List (Option Ob)) (q : Prop), Fits s ⟨[(0, 0), (k, 0)], 2, hE (dl P D) P o n c, [sl 1 0 none 2 2], V, h', q⟩ [.slice (some ⟨k, 0, none⟩) 2 2] := fun V h' q => by
                refine ⟨?_, fun j pp ob h1 h2 => ?_⟩
                · show [Value.slice (some ⟨k, 0, none⟩) 2 2] = [Value.slice (some ⟨k, addO 0 0, none⟩) 2 2]
                  rw [addO_eq]
                · rcases j with _ | _ | j
                  · simp only [List.getElem?_cons_zero, Option.some.injEq] at h1
                    simp only [hE, List.getElem?_cons_zero, Option.some.injEq] at h2
                    subst h1; subst h2
                    exact ⟨_, hF, fit_fam (m := 0) (ν := id) (δ := id) hD⟩
                  · simp only [Nat.zero_add, List.getElem?_cons_succ, List.getElem?_cons_zero, Option.some.injEq] at h1
                    simp only [hE, Nat.zero_add, List.getElem?_cons_succ, List.getElem?_cons_zero, Option.some.injEq] at h2
                    subst h1; subst h2
                    exact ⟨_, hk, fit_two rfl rfl rfl rfl⟩
                  · simp at h1
              split at h
              · cases h
                refine ⟨fitE _ _ _, fun ⟨q0, q1, q2⟩ => ?_⟩
                have := ccE (D := dl P D) (P := P) (o := o) (n := n) (c := c) q0 q1 (by rw [dl_at]; exact q2)
                rw [dl_at] at this; exact this
              · cases h
                refine ⟨fitE _ _ _, fun q => ?_⟩
                cases (show n = 0 from q)
                exact ccE0 (dl P D) P o c
              · cases h
            · rename_i z a d
              split at h
              · rename_i L tz hz
                cases h
                refine ⟨⟨?_, fun j pp ob h1 h2 => ?_⟩, fun ⟨q0, q1, q2, q3, q4⟩ => ?_⟩
                · show [Value.slice (some ⟨k, 0, none⟩) 2 2] = [Value.slice (some ⟨k, addO 0 0, none⟩) 2 2]
                  rw [addO_eq]
                · rcases j with _ | _ | _ | j
                  · simp only [List.getElem?_cons_zero, Option.some.injEq] at h1
                    simp only [hR', List.getElem?_cons_zero, Option.some.injEq] at h2
                    subst h1; subst h2
                    exact ⟨_, hF, fit_fam (m := 0) (ν := id) (δ := id) hD⟩
                  · simp only [Nat.zero_add, List.getElem?_cons_succ, List.getElem?_cons_zero, Option.some.injEq] at h1
                    simp only [hR', Nat.zero_add, List.getElem?_cons_succ, List.getElem?_cons_zero, Option.some.injEq] at h2
                    subst h1; subst h2
                    refine ⟨_, hk, fit_two ?_ rfl rfl rfl⟩
                    show Value.slice (some ⟨z, 0, some 1⟩) a d = Value.slice (some ⟨z, addO 0 0, some 1⟩) a d
                    rw [addO_eq]
                  · simp only [Nat.zero_add, Nat.reduceAdd, List.getElem?_cons_succ, List.getElem?_cons_zero, Option.some.injEq] at h1
                    simp only [hR', Nat.zero_add, Nat.reduceAdd, List.getElem?_cons_succ, List.getElem?_cons_zero, Option.some.injEq] at h2
                    subst h1; subst h2
                    exact ⟨_, hz, fit_whole'⟩
                  · simp at h1
                · have := ccR (D := dl P D) (P := P) (o := o) (n := n) (c := c) (a := a) (d := d) (L := L) q0 q1 q2 (by rw [dl_at]; exact q3) q4
                  rw [dl_at] at this; exact this
              · cases h
            · cases h
          · cases h
        · cases h
      · cases h
    · cases h
  · cases h
def KG (U : UX) (T : CT) : Given := { Given.framesO (Given.frames Given.nothing (FW U T)) FKc with fits := true }
theorem KG_ok (U : UX) (T : CT) : GivenOk Try.prog (KG U T) := frames_fits (((GivenOk.nothing _).frames (FW_ok U T)).framesO FKc_ok) true
def askE (S : St) (f : FuncId) (c : Code) (_ : St) : Option Ask2 := if f == 43 then some ⟨⟨[], [], [(8, [1, 12, 13, 14, 15])], [4]⟩, .ret, fun _ => S⟩ else none
def askR (S : St) (f : FuncId) (c : Code) (_ : St) : Option Ask2 := if f == 43 then some ⟨⟨[], [], [(9, [1, 12, 13, 14, 15])], [5]⟩, .ret, fun _ => S⟩ else none
def KGE (U : UX) (T : CT) (S : St) : Given := Given.asking2 (KG U T) Try.prog (askE S)
theorem KGE_ok (U : UX) (T : CT) (S : St) : GivenOk Try.prog (KGE U T S) := GivenOk.asking2 (KG_ok U T) _
def KGR (U : UX) (T : CT) (S : St) : Given := Given.asking2 (KG U T) Try.prog (askR S)
theorem KGR_ok (U : UX) (T : CT) (S : St) : GivenOk Try.prog (KGR U T S) := GivenOk.asking2 (KG_ok U T) _
def oF (D : Nat → List Int) : Option Ob := some (.fam (FD D))
def oCi (ks : Nat → Int) : Option Ob := some (.cells (.lit (rowV .u8 176 ks ++ [.bool true])) 84)
def oMa (f1 f2 x : Nat → Int) (left : Value) : Option Ob := some (.cells (.lit (.pointer (some ⟨1, 0, none⟩) :: (rowV .u8 16 f1 ++ (rowV .u8 16 f2 ++ (rowV .u8 16 x ++ [left]))))) 70)
def oBy (L : List Int) : Option Ob := some (.cells (.ints .u8 L) 5)
def wrE (K : Given) (D : Nat → List Int) (ks f1 f2 x : Nat → Int) (P o n c : Nat) (r : List (Option Bool)) : Option (Value × St) := (mk Try.prog K 200).call 18 [P0 2 0, ab P o n c] (smSt 2 [oF D, oCi ks, oMa f1 f2 x (.slice none 0 0)] r)
def wrR (K : Given) (D : Nat → List Int) (M : List Int) (a : Nat) (ks f1 f2 x : Nat → Int) (P o n c : Nat) (r : List (Option Bool)) : Option (Value × St) := (mk Try.prog K 200).call 18 [P0 2 0, ab P o n c] (smSt 2 [oF D, oCi ks, oMa f1 f2 x (sl 3 0 (some 1) a a), oBy M] r)
end
end ga
end Go.Proofs.Ytkcngffpnnlmeaa
namespace Go.Proofs.Ytkcngffpnnlmeaa
open Go.ChangeShapes Go.WideShapes Go.ChangeAt Go.RowKit Go.Cln
namespace ga
open ae
set_option linter.unusedVariables false
noncomputable section
def nw (D : Nat → List Int) (P o n : Nat) : List Int := List.take n (List.drop o (dl P (D P) P))
def aE (D : Nat → List Int) (P o n : Nat) : Prop := 0 < n ∧ n ≤ 1000000 ∧ (wa (D P) o n).length = n
def aR (D : Nat → List Int) (M : List Int) (a P o n : Nat) : Prop := 0 < a ∧ a ≤ 1000000 ∧ n ≤ 1000000 ∧ (wa (D P) o n).length = n ∧ M.length = a
def hE' (D : Nat → List Int) (ks f1 f2 x : Nat → Int) (l : Value) (k : Nat) : List (Option Ob) := [oF D, oCi ks, oMa f1 f2 x l] ++ List.replicate k none
def hEx (D : Nat → List Int) (ks f1 f2 x : Nat → Int) (A : List Int) (o r : Nat) : List (Option Ob) := [oF D, oCi ks, oMa f1 f2 x (sl 10 0 (some 1) (0 + r) (0 + r))] ++ (List.replicate 7 none ++ [oBy ((A.drop o).take r)])
def hRx (D : Nat → List Int) (M : List Int) (ks f1 f2 x : Nat → Int) (A : List Int) (o r : Nat) : List (Option Ob) := [oF D, oCi ks, oMa f1 f2 x (sl 11 0 (some 1) (0 + r) (0 + r)), oBy M] ++ (List.replicate 7 none ++ [oBy ((A.drop o).take r)])
def kE : List Bool := [true, true, true] ++ (List.replicate 7 false ++ [true])
def kR : List Bool := [true, true, true, true] ++ (List.replicate 7 false ++ [true])
def pEB (D : Nat → List Int) (P o n : Nat) : Prop := ((((((True ∧ aE D P o n) ∧ decide ((n : Int) > 0) = true) ∧ decide ((16 : Int) < (n : Int)) = false) ∧ (0 ≤ (n : Int) ∧ (n : Int) ≤ (n : Int) ∧ (0 : Int) ≤ 0 ∧ (0 : Int) ≤ (n : Int))) ∧ decide ((n : Int) > 16) = false) ∧ decide (0 + n ≤ 0) = false) ∧ (0 + n ≤ (wa (D P) o n).length ∧ 0 + 0 ≤ 0 ∧ (0 + n) * 1 ≤ mostBytes ∧ 0 + n ≤ mostBytes)
def pRB (D : Nat → List Int) (M : List Int) (a P o n : Nat) : Prop := ((((((True ∧ aR D M a P o n) ∧ decide (((a + n : Nat) : Int) > 0) = true) ∧ decide ((16 : Int) < ((a + n : Nat) : Int)) = false) ∧ (0 ≤ ((a + n : Nat) : Int) ∧ ((a + n : Nat) : Int) ≤ ((a + n : Nat) : Int) ∧ (0 : Int) ≤ 0 ∧ (0 : Int) ≤ ((a + n : Nat) : Int))) ∧ decide (((a + n : Nat) : Int) > 16) = false) ∧ decide (0 + (a + n) ≤ 0) = false) ∧ (0 + (a + n) ≤ (M ++ wa (D P) o n).length ∧ 0 + 0 ≤ 0 ∧ (0 + (a + n)) * 1 ≤ mostBytes ∧ 0 + (a + n) ≤ mostBytes)
theorem wE0 (U : UX) (T : CT) (D : Nat → List Int) (ks f1 f2 x : Nat → Int) (P o n c : Nat) : (wrE (KG U T) D ks f1 f2 x P o n c (nn 8 ++ [some false])).map (fun r => (r.1, r.2.obl, r.2.next, keepL ([true, true, true] ++ List.replicate 5 false) r.2.heap.get 0)) = some (.int .i64 0, True ∧ n = 0, (hE' D ks f1 f2 x (.slice none 0 0) 5).length, hE' D ks f1 f2 x (.slice none 0 0) 5) := by kernel_rfl
theorem wEB (U : UX) (T : CT) (D : Nat → List Int) (ks f1 f2 x : Nat → Int) (P o n c : Nat) : (wrE (KG U T) D ks f1 f2 x P o n c (nn 8 ++ (some true :: oD))).map (fun r => (r.1, r.2.obl, r.2.next, keepL kE r.2.heap.get 0)) = some (.int .i64 0, pEB D P o n, (hEx D ks f1 f2 x (wa (D P) o n) 0 n).length, hEx D ks f1 f2 x (wa (D P) o n) 0 n) := by kernel_rfl
theorem wEC (U : UX) (T : CT) (D : Nat → List Int) (ks f1 f2 x : Nat → Int) (P o n c : Nat) (x' : Nat → Int) (o' r : Nat) : (wrE (KGE U T (Xe D ks f1 f2 x' (wa (D P) o n) o' r)) D ks f1 f2 x P o n c (nn 8 ++ [some true])).map (fun r => (r.1, r.2.obl, r.2.next, keepL kE r.2.heap.get 0)) = some (.int .i64 0, (True ∧ aE D P o n) ∧ (∀ rd, CodeOk Try.prog rd (.loop bW) (Ee D ks f1 f2 x (wa (D P) o n) 0 n n) .ret (Xe D ks f1 f2 x' (wa (D P) o n) o' r)), (hEx D ks f1 f2 x' (wa (D P) o n) o' r).length, hEx D ks f1 f2 x' (wa (D P) o n) o' r) := by kernel_rfl
theorem wRB (U : UX) (T : CT) (D : Nat → List Int) (M : List Int) (a : Nat) (ks f1 f2 x : Nat → Int) (P o n c : Nat) : (wrR (KG U T) D M a ks f1 f2 x P o n c (nn 8 ++ oD)).map (fun r => (r.1, r.2.obl, r.2.next, keepL kR r.2.heap.get 0)) = some (.int .i64 0, pRB D M a P o n, (hRx D M ks f1 f2 x (M ++ wa (D P) o n) 0 (a + n)).length, hRx D M ks f1 f2 x (M ++ wa (D P) o n) 0 (a + n)) := by kernel_rfl
theorem wRC (U : UX) (T : CT) (D : Nat → List Int) (M : List Int) (a : Nat) (ks f1 f2 x : Nat → Int) (P o n c : Nat) (x' : Nat → Int) (o' r : Nat) : (wrR (KGR U T (Xr D M a ks f1 f2 x' (M ++ wa (D P) o n) o' r)) D M a ks f1 f2 x P o n c []).map (fun r => (r.1, r.2.obl, r.2.next, keepL kR r.2.heap.get 0)) = some (.int .i64 0, (True ∧ aR D M a P o n) ∧ (∀ rd, CodeOk Try.prog rd (.loop bW) (Er D M a ks f1 f2 x (M ++ wa (D P) o n) 0 (a + n) (a + n)) .ret (Xr D M a ks f1 f2 x' (M ++ wa (D P) o n) o' r)), (hRx D M ks f1 f2 x' (M ++ wa (D P) o n) o' r).length, hRx D M ks f1 f2 x' (M ++ wa (D P) o n) o' r) := by kernel_rfl
end
end ga
end Go.Proofs.Ytkcngffpnnlmeaa
namespace Go.Proofs.Ytkcngffpnnlmeaa
open Go.ChangeShapes Go.WideShapes Go.ChangeAt Go.RowKit Go.Cln
namespace ga
open ae
set_option linter.unusedVariables false
noncomputable section
def qn (n : Nat) : Nat := (n - 1) / 16
def rn (n : Nat) : Nat := n - 16 * ((n - 1) / 16)
theorem qr_eq {n : Nat} (h : 0 < n) : 16 * qn n + rn n = n ∧ 0 < rn n ∧ rn n ≤ 16 := by unfold qn rn; omega
theorem wr_0 (D : Nat → List Int) (ks f1 f2 x : Nat → Int) (P o c : Nat) : CallOk Try.prog 18 [P0 2 0, ab P o 0 c] (smSt 2 [oF D, oCi ks, oMa f1 f2 x (.slice none 0 0)] []) (.int .i64 0) (smSt 2 (hE' D ks f1 f2 x (.slice none 0 0) 5) []) :=
  frame_by pg (KG_ok U0 CT0) _ (wE0 U0 CT0 D ks f1 f2 x P o 0 c) ⟨trivial, rfl⟩ (by rfl) rfl
theorem pEB_ok {D : Nat → List Int} {P o n : Nat} (h : aE D P o n) (h16 : n ≤ 16) : pEB D P o n := by
  have h0 := h
  obtain ⟨q0, q1, q2⟩ := h
  unfold pEB
  rw [q2]
  refine ⟨⟨⟨⟨⟨⟨⟨trivial, h0⟩, ?_⟩, ?_⟩, by omega⟩, ?_⟩, ?_⟩, by omega, by omega, by unfold mostBytes; omega, by unfold mostBytes; omega⟩
  · rw [decide_eq_true_eq]; omega
  · rw [decide_eq_false_iff_not]; omega
  · rw [decide_eq_false_iff_not]; omega
  · rw [decide_eq_false_iff_not]; omega
theorem pRB_ok {D : Nat → List Int} {M : List Int} {a P o n : Nat} (h : aR D M a P o n) (h16 : a + n ≤ 16) : pRB D M a P o n := by
  have h0 := h
  obtain ⟨q0, q1, q2, q3, q4⟩ := h
  unfold pRB
  rw [List.length_append, q3, q4]
  refine ⟨⟨⟨⟨⟨⟨⟨trivial, h0⟩, ?_⟩, ?_⟩, by omega⟩, ?_⟩, ?_⟩, by omega, by omega, by unfold mostBytes; omega, by unfold mostBytes; omega⟩
  · rw [decide_eq_true_eq]; omega
  · rw [decide_eq_false_iff_not]; omega
  · rw [decide_eq_false_iff_not]; omega
  · rw [decide_eq_false_iff_not]; omega
theorem wr_E (D : Nat → List Int) (ks f1 f2 x : Nat → Int) (P o n c : Nat) (h : aE D P o n) : CallOk Try.prog 18 [P0 2 0, ab P o n c] (smSt 2 [oF D, oCi ks, oMa f1 f2 x (.slice none 0 0)] []) (.int .i64 0) (smSt 2 (hEx D ks f1 f2 (wch ks (wa (D P) o n) (qn n) 0 x) (wa (D P) o n) (16 * qn n) (rn n)) []) := by
  have hh := h
  obtain ⟨q0, q1, q2⟩ := h
  obtain ⟨e0, e1, e2⟩ := qr_eq q0
  by_cases hQ : n ≤ 16
  · have z1 : qn n = 0 := by unfold qn; omega
    have z2 : rn n = n := by unfold rn; omega
    rw [z1, z2]
    exact frame_by pg (KG_ok U0 CT0) _ (wEB U0 CT0 D ks f1 f2 x P o n c) (pEB_ok hh hQ) (by rfl) rfl
  · have hl := fun rd => loopWre D ks f1 f2 x (wa (D P) o n) 0 n (qn n) (rn n) (by unfold qn; omega) e1 e2 (by omega) (by omega) (by omega) rd
    rw [e0] at hl
    have := frame_by pg (KGE_ok U0 CT0 _) _ (wEC U0 CT0 D ks f1 f2 x P o n c (wch ks (wa (D P) o n) (qn n) 0 x) (0 + 16 * qn n) (rn n)) ⟨⟨trivial, hh⟩, hl⟩ (by rfl) rfl
    rw [Nat.zero_add] at this
    exact this
theorem wr_R (D : Nat → List Int) (M : List Int) (a : Nat) (ks f1 f2 x : Nat → Int) (P o n c : Nat) (h : aR D M a P o n) (hn : a + n ≤ 1000000) : CallOk Try.prog 18 [P0 2 0, ab P o n c] (smSt 2 [oF D, oCi ks, oMa f1 f2 x (sl 3 0 (some 1) a a), oBy M] []) (.int .i64 0) (smSt 2 (hRx D M ks f1 f2 (wch ks (M ++ wa (D P) o n) (qn (a + n)) 0 x) (M ++ wa (D P) o n) (16 * qn (a + n)) (rn (a + n))) []) := by
  have hh := h
  obtain ⟨q0, q1, q2, q3, q4⟩ := h
  obtain ⟨e0, e1, e2⟩ := qr_eq (n := a + n) (by omega)
  have hlen : (M ++ wa (D P) o n).length = a + n := by rw [List.length_append, q3, q4]
  by_cases hQ : a + n ≤ 16
  · have z1 : qn (a + n) = 0 := by unfold qn; omega
    have z2 : rn (a + n) = a + n := by unfold rn; omega
    rw [z1, z2]
    exact frame_by pg (KG_ok U0 CT0) _ (wRB U0 CT0 D M a ks f1 f2 x P o n c) (pRB_ok hh hQ) (by rfl) rfl
  · have hl := fun rd => loopWrr D M a ks f1 f2 x (M ++ wa (D P) o n) 0 (a + n) (qn (a + n)) (rn (a + n)) (by unfold qn; omega) e1 e2 (by omega) (by omega) (by omega) rd
    rw [e0] at hl
    have := frame_by pg (KGR_ok U0 CT0 _) _ (wRC U0 CT0 D M a ks f1 f2 x P o n c (wch ks (M ++ wa (D P) o n) (qn (a + n)) 0 x) (0 + 16 * qn (a + n)) (rn (a + n))) ⟨⟨trivial, hh⟩, hl⟩ (by rfl) rfl
    rw [Nat.zero_add] at this
    exact this
def F18a (T : VT) (f : FuncId) (args : List Value) (s : St) : Option (Inst × Nat) := if f == 18 then (match args with
  | [.pointer (some ⟨m, 0, none⟩), .slice (some ⟨P, o, some 1000⟩) n c] => (match s.heap.get m with
    | some (.cells (.lit (.pointer (some ⟨ci, 0, none⟩) :: l)) _) => (match s.heap.get ci with
      | some (.cells (.lit lc) _) => (match s.heap.get 0 with
        | some (.fam F) => (match F 1000 P with
          | .ints .u8 D => if okC lc && isN 48 (l.take 48).toArray then (match l.drop 48 with
            | [.slice none 0 0] => (match s.orc with
              | some true :: _ => some (⟨[(0, 0), (ci, 0), (m, 0)], 2, [oF (dl P D), oC lc, oMc (P0 1 0 :: (l.take 48 ++ [.slice none 0 0]))], [P0 2 0, ab P o n c], .int .i64 0,
                  [oF (dl P D), oC lc, oMc (P0 1 0 :: ((l.take 48).take 32 ++ (R16 (T.wx (lc.take 176) ((l.take 48).drop 32) (wa D o n)) ++ [sl 10 0 (some 1) (T.r n) (T.r n)])))] ++ (List.replicate 7 none ++ [oI (((wa D o n).drop (T.o n)).take (T.r n))]), T = VT0 ∧ 0 < n ∧ n ≤ 1000000 ∧ (wa D o n).length = n⟩, 1)
              | some false :: _ => some (⟨[(0, 0), (ci, 0), (m, 0)], 2, [oF (dl P D), oC lc, oMc (P0 1 0 :: (l.take 48 ++ [.slice none 0 0]))], [P0 2 0, ab P o n c], .int .i64 0,
                  [oF (dl P D), oC lc, oMc (P0 1 0 :: (l.take 48 ++ [.slice none 0 0]))] ++ List.replicate 5 none, n = 0⟩, 1)
              | _ => none)
            | [.slice (some ⟨z, 0, some 1⟩) a d] => (match s.heap.get z with
              | some (.cells (.ints .u8 M) _) => some (⟨[(0, 0), (ci, 0), (m, 0), (z, 0)], 2, [oF (dl P D), oC lc, oMc (P0 1 0 :: (l.take 48 ++ [sl 3 0 (some 1) a d])), oI M], [P0 2 0, ab P o n c], .int .i64 0,
                  [oF (dl P D), oC lc, oMc (P0 1 0 :: ((l.take 48).take 32 ++ (R16 (T.wx (lc.take 176) ((l.take 48).drop 32) (M ++ wa D o n)) ++ [sl 11 0 (some 1) (T.r (a + n)) (T.r (a + n))]))), oI M] ++ (List.replicate 7 none ++ [oI (((M ++ wa D o n).drop (T.o (a + n))).take (T.r (a + n)))]),
                  T = VT0 ∧ d = a ∧ 0 < a ∧ a ≤ 1000000 ∧ n ≤ 1000000 ∧ a + n ≤ 1000000 ∧ (wa D o n).length = n ∧ M.length = a⟩, 0)
              | _ => none)
            | _ => none) else none
          | _ => none)
        | _ => none)
      | _ => none)
    | _ => none)
  | _ => none) else none
theorem oMc_eq {l : LV} {a bb cx : Nat → Int} (p4 : l.take 48 = R16 a ++ (R16 bb ++ R16 cx)) (v : Value) : oMc (P0 1 0 :: (l.take 48 ++ [v])) = oMa a bb cx v := by
  rw [p4, List.append_assoc, List.append_assoc]; rfl
theorem oC_eq {lc : LV} (h : okC lc = true) : oC lc = oCi (intAt (lc.take 176)) := by
  unfold oC oCi; rw [← okC_eq h]
theorem F18a_ok (T : VT) (f : FuncId) (args : List Value) (s : St) (i : Inst) (u : Nat) (h : F18a T f args s = some (i, u)) : Fits s i args ∧ (i.ask → CallOk Try.prog f i.args i.s0 i.val i.s1) := by
  unfold F18a at h
  split at h
  · rename_i hf
    have hf' : f = 18 := by simpa using hf
    subst hf'
    split at h
    · rename_i m P o n c
      split at h
      · rename_i ci l tm hm
        split at h
        · rename_i lc tc hci
          split at h
          · rename_i F hF
            split at h
            · rename_i D hD
              split at h
              · rename_i hc
                rw [Bool.and_eq_true] at hc
                obtain ⟨a', bb, cx, p1, p2, p3, p4, p5, i1, i2, i3⟩ := parts48 hc.2
                split at h
                · rename_i hd
                  have el := cat48 hd
                  have fitE : ∀ (V : Value) (h' : List (Option Ob)) (q : Prop), Fits s ⟨[(0, 0), (ci, 0), (m, 0)], 2, [oF (dl P D), oC lc, oMc (P0 1 0 :: (l.take 48 ++ [.slice none 0 0]))], [P0 2 0, ab P o n c], V, h', q⟩ [.pointer (some ⟨m, 0, none⟩), .slice (some ⟨P, o, some 1000⟩) n c] := fun V h' q => by
                    refine ⟨?_, fun j pp ob h1 h2 => ?_⟩
                    · show [Value.pointer (some ⟨m, 0, none⟩), .slice (some ⟨P, o, some 1000⟩) n c] = [Value.pointer (some ⟨m, addO 0 0, none⟩), .slice (some ⟨P, o, some 1000⟩) n c]
                      rw [addO_eq]
                    · rcases j with _ | _ | _ | j
                      · simp only [List.getElem?_cons_zero, Option.some.injEq] at h1
                        simp only [oF, List.getElem?_cons_zero, Option.some.injEq] at h2
                        subst h1; subst h2
                        exact ⟨_, hF, fit_fam (m := 0) (ν := id) (δ := id) hD⟩
                      · simp only [Nat.zero_add, List.getElem?_cons_succ, List.getElem?_cons_zero, Option.some.injEq] at h1
                        simp only [oC, Nat.zero_add, List.getElem?_cons_succ, List.getElem?_cons_zero, Option.some.injEq] at h2
                        subst h1; subst h2
                        exact ⟨_, hci, fit_same (okC_flat0 hc.1)⟩
                      · simp only [Nat.zero_add, Nat.reduceAdd, List.getElem?_cons_succ, List.getElem?_cons_zero, Option.some.injEq] at h1
                        simp only [oMc, Nat.zero_add, Nat.reduceAdd, List.getElem?_cons_succ, List.getElem?_cons_zero, Option.some.injEq] at h2
                        subst h1; subst h2
                        rw [el] at hm
                        refine ⟨_, hm, fit_obj' ?_ rfl (isN_flat0 hc.2) rfl rfl⟩
                        show Value.pointer (some ⟨ci, 0, none⟩) = Value.pointer (some ⟨ci, addO 0 0, none⟩)
                        rw [addO_eq]
                      · simp at h1
                  split at h
                  · cases h
                    refine ⟨fitE _ _ _, fun hT => ?_⟩
                    obtain ⟨rfl, q0, q1, q2⟩ := hT
                    have w := wr_E (dl P D) (intAt (lc.take 176)) a' bb cx P o n c ⟨q0, q1, by rw [dl_at]; exact q2⟩
                    unfold hEx at w
                    rw [dl_at, ← oC_eq hc.1, ← oMc_eq p4, Nat.zero_add] at w
                    have ew : VT0.wx (lc.take 176) ((l.take 48).drop 32) (wa D o n) = wch (intAt (lc.take 176)) (wa D o n) (qn n) 0 cx := by
                      show wch (intAt (lc.take 176)) (wa D o n) (((wa D o n).length - 1) / 16) 0 (intAt ((l.take 48).drop 32)) = _
                      rw [q2, i3]; rfl
                    show CallOk Try.prog 18 [P0 2 0, ab P o n c] (smSt 2 [oF (dl P D), oC lc, oMc (P0 1 0 :: (l.take 48 ++ [.slice none 0 0]))] []) (.int .i64 0) (smSt 2 ([oF (dl P D), oC lc, oMc (P0 1 0 :: ((l.take 48).take 32 ++ (R16 (VT0.wx (lc.take 176) ((l.take 48).drop 32) (wa D o n)) ++ [sl 10 0 (some 1) (rn n) (rn n)])))] ++ (List.replicate 7 none ++ [oBy (((wa D o n).drop (16 * qn n)).take (rn n))])) [])
                    rw [ew, p5, List.append_assoc]
                    exact w
                  · cases h
                    refine ⟨fitE _ _ _, fun hT => ?_⟩
                    cases (show n = 0 from hT)
                    have w := wr_0 (dl P D) (intAt (lc.take 176)) a' bb cx P o c
                    unfold hE' at w
                    rw [← oC_eq hc.1, ← oMc_eq p4] at w
                    exact w
                  · cases h
                · rename_i z a d hd
                  have el := cat48 hd
                  split at h
                  · rename_i M tz hz
                    cases h
                    refine ⟨⟨?_, fun j pp ob h1 h2 => ?_⟩, fun hT => ?_⟩
                    · show [Value.pointer (some ⟨m, 0, none⟩), .slice (some ⟨P, o, some 1000⟩) n c] = [Value.pointer (some ⟨m, addO 0 0, none⟩), .slice (some ⟨P, o, some 1000⟩) n c]
                      rw [addO_eq]
                    · rcases j with _ | _ | _ | _ | j
                      · simp only [List.getElem?_cons_zero, Option.some.injEq] at h1
                        simp only [oF, List.getElem?_cons_zero, Option.some.injEq] at h2
                        subst h1; subst h2
                        exact ⟨_, hF, fit_fam (m := 0) (ν := id) (δ := id) hD⟩
                      · simp only [Nat.zero_add, List.getElem?_cons_succ, List.getElem?_cons_zero, Option.some.injEq] at h1
                        simp only [oC, Nat.zero_add, List.getElem?_cons_succ, List.getElem?_cons_zero, Option.some.injEq] at h2
                        subst h1; subst h2
                        exact ⟨_, hci, fit_same (okC_flat0 hc.1)⟩
                      · simp only [Nat.zero_add, Nat.reduceAdd, List.getElem?_cons_succ, List.getElem?_cons_zero, Option.some.injEq] at h1
                        simp only [oMc, Nat.zero_add, Nat.reduceAdd, List.getElem?_cons_succ, List.getElem?_cons_zero, Option.some.injEq] at h2
                        subst h1; subst h2
                        rw [el] at hm
                        refine ⟨_, hm, fit_obj' ?_ rfl (isN_flat0 hc.2) ?_ rfl⟩
                        · show Value.pointer (some ⟨ci, 0, none⟩) = Value.pointer (some ⟨ci, addO 0 0, none⟩)
                          rw [addO_eq]
                        · show Value.slice (some ⟨z, 0, some 1⟩) a d = Value.slice (some ⟨z, addO 0 0, some 1⟩) a d
                          rw [addO_eq]
                      · simp only [Nat.zero_add, Nat.reduceAdd, List.getElem?_cons_succ, List.getElem?_cons_zero, Option.some.injEq] at h1
                        simp only [oI, Nat.zero_add, Nat.reduceAdd, List.getElem?_cons_succ, List.getElem?_cons_zero, Option.some.injEq] at h2
                        subst h1; subst h2
                        exact ⟨_, hz, fit_whole'⟩
                      · simp at h1
                    · obtain ⟨rfl, rfl, q0, q1, q2, q3, q4, q5⟩ := hT
                      have w := wr_R (dl P D) M d (intAt (lc.take 176)) a' bb cx P o n c ⟨q0, q1, q2, by rw [dl_at]; exact q4, q5⟩ q3
                      unfold hRx at w
                      rw [dl_at, ← oC_eq hc.1, ← oMc_eq p4, Nat.zero_add] at w
                      have ew : VT0.wx (lc.take 176) ((l.take 48).drop 32) (M ++ wa D o n) = wch (intAt (lc.take 176)) (M ++ wa D o n) (qn (d + n)) 0 cx := by
                        show wch (intAt (lc.take 176)) (M ++ wa D o n) (((M ++ wa D o n).length - 1) / 16) 0 (intAt ((l.take 48).drop 32)) = _
                        rw [List.length_append, q4, q5, i3]; rfl
                      show CallOk Try.prog 18 [P0 2 0, ab P o n c] (smSt 2 [oF (dl P D), oC lc, oMc (P0 1 0 :: (l.take 48 ++ [sl 3 0 (some 1) d d])), oBy M] []) (.int .i64 0) (smSt 2 ([oF (dl P D), oC lc, oMc (P0 1 0 :: ((l.take 48).take 32 ++ (R16 (VT0.wx (lc.take 176) ((l.take 48).drop 32) (M ++ wa D o n)) ++ [sl 11 0 (some 1) (rn (d + n)) (rn (d + n))]))), oBy M] ++ (List.replicate 7 none ++ [oBy (((M ++ wa D o n).drop (16 * qn (d + n))).take (rn (d + n)))])) [])
                      rw [ew, p5, List.append_assoc]
                      exact w
                  · cases h
                · cases h
              · cases h
            · cases h
          · cases h
        · cases h
      · cases h
    · cases h
  · cases h
end
end ga
end Go.Proofs.Ytkcngffpnnlmeaa
