/- Read off the code by the clean reading. -/
import Derived.Test.YtiangelmpnnijaaClnFa
import Derived.Test.YtiangelmpnnijaaClnQc
set_option linter.unusedVariables false
set_option linter.unusedSimpArgs false
set_option linter.deprecated false
set_option maxRecDepth 100000
namespace Go.Proofs.Ytiangelmpnnijaa
open Go.ChangeShapes Go.WideShapes Go.ChangeAt Go.RowKit Go.Cln
namespace fe
open fr fc
set_option linter.unusedVariables false
noncomputable section
def oF (e : Int) (v : Value) : Ob := .cells (.lit [v, .int .i64 e, .bool true]) 64
def rw1 (b o n c : Nat) : Value := .slice (some ⟨b, o, some 1⟩) n c
def wnt (v : Value) (e : Int) : Value := .agg #[v, .int .i64 e]
def h11 (Lw L : List Int) (n c : Nat) (e : Int) : List (Option Ob) := [some (.cells (.ints .u8 Lw) 5), some (.cells (.ints .u8 L) 5), some (oF e (rw1 1 0 n c))]
def c11 (K : Given) (Lw L : List Int) (m d n c : Nat) (e e2 : Int) (o : List (Option Bool)) : Option (Value × St) := (mk Try.prog K 300).call 11 [.pointer (some ⟨2, 0, none⟩), wnt (rw1 0 0 m d) e] (smSt 2 (h11 Lw L n c e2) o)
end
end fe
end Go.Proofs.Ytiangelmpnnijaa
namespace Go.Proofs.Ytiangelmpnnijaa
open Go.ChangeShapes Go.WideShapes Go.ChangeAt Go.RowKit Go.Cln
namespace fe
open fr fc
set_option linter.unusedVariables false
noncomputable section
noncomputable def lb11 : Code := loopB Try.prog 11 0
def J (n : Nat) : List Value := List.replicate n junk
def U (n : Nat) : List Value := List.replicate n undef
def ix (i : Int) : Nat := 0 + i.toNat * 1
def i1 (i : Int) : Int := IntKind.i64.wrap (i + 1)
def pL (M : List Int) (n : Nat) (i : Int) : Prop := ((((True ∧ decide (i < (n : Int)) = true) ∧ (0 ≤ i ∧ i < (n : Int))) ∧ ix i < M.length) ∧ (0 ≤ i ∧ i < (n : Int))) ∧ ix i + 1 ≤ M.length
def oLp : List (Option Bool) := [some true, some true, some true, some true, some true]
theorem ix_eq (i : Nat) : ix (i : Int) = i := by unfold ix; omega
theorem i1_eq {j : Nat} (h : j < 100000) : i1 (j : Int) = ((j + 1 : Nat) : Int) := by unfold i1; rw [IntKind.wrap_i64]; omega
theorem pL_of {M : List Int} {n j : Nat} (hM : M.length = n) (h : j < n) : pL M n (j : Int) := by
  unfold pL
  rw [ix_eq]
  exact ⟨⟨⟨⟨⟨trivial, by rw [decide_eq_true_eq]; omega⟩, by omega⟩, by omega⟩, by omega⟩, by omega⟩
def tplD : List Value := [undef, .agg #[junk, junk], undef, junk, undef, junk, undef] ++ J 4 ++ [undef, junk, junk, undef, undef, .tuple #[.agg #[junk, junk], .agg #[junk, junk], junk, junk], .agg #[junk, junk], .tuple #[.agg #[junk, junk], .agg #[junk, junk], junk, junk], .agg #[junk, junk], .agg #[junk, junk], junk, junk, .tuple #[junk, junk, junk, junk], junk, .tuple #[junk, junk, junk, junk]] ++ J 27 ++ U 16
def o4Z : Ob := .cells (.lit [.slice none 0 0, .int .i64 0]) 30
def oW (v : Value) (e : Int) : Ob := .cells (.lit [v, .int .i64 e]) 30
def HD (M : Option (List Int)) (Lw L : List Int) (p n c q m d : Nat) (e e8 : Int) : Nat → Option Ob := fun i => match i with
  | 0 => some (.cells (.ints .u8 Lw) 5)
  | 1 => some (.cells (.ints .u8 L) 5)
  | 2 => some (oF e (rw1 1 p n c))
  | 4 => some o4Z
  | 8 => some (oW (rw1 0 q m d) e8)
  | 16 => M.map fun M => .cells (.ints .u8 M) 5
  | _ => none
def tE (b : Nat) (ok : Bool) : List Value := [P0 2 0, .agg #[junk, junk], undef, junk, P0 4 0, junk, P0 8 0] ++ J 4 ++ [.slice (some ⟨16, 0, some 1⟩) b b, junk, junk, .bool ok, .int .i64 0, .tuple #[.agg #[junk, junk], .agg #[junk, junk], junk, junk], .agg #[junk, junk], .tuple #[.agg #[junk, junk], .agg #[junk, junk], junk, junk], .agg #[junk, junk], .agg #[junk, junk], junk, junk, .tuple #[junk, junk, junk, junk], junk, .tuple #[junk, junk, junk, junk]] ++ J 27 ++ U 16
def tR (b : Nat) (ok : Bool) (i : Int) : List Value := [P0 2 0, .agg #[junk, junk], undef, junk, P0 4 0, junk, P0 8 0] ++ J 4 ++ [.slice (some ⟨16, 0, some 1⟩) b b, junk, junk, .bool ok, .int .i64 i, .tuple #[.agg #[junk, junk], .agg #[junk, junk], junk, junk], .agg #[junk, junk], .tuple #[.agg #[junk, junk], .agg #[junk, junk], junk, junk], .agg #[junk, junk], .agg #[junk, junk], junk, junk, .tuple #[junk, junk, junk, junk], junk, .tuple #[junk, junk, junk, junk]] ++ J 41 ++ [undef, undef]
def sE (M : List Int) (Lw L : List Int) (b : Nat) (p n c q m d : Nat) (e e8 : Int) (ok : Bool) : St := ⟨tE b ok, [], Tr.rebuild (HD (some M) Lw L p n c q m d e e8) 18, 18, 2, [], fun _ => false, True, []⟩
def sR (M : List Int) (Lw L : List Int) (b : Nat) (p n c q m d : Nat) (e e8 : Int) (ok : Bool) (i : Int) : St := ⟨tR b ok i, [], Tr.rebuild (HD (some M) Lw L p n c q m d e e8) 18, 18, 2, [], fun _ => false, True, []⟩
def sZ (Lw L : List Int) (b : Nat) (p n c q m d : Nat) (e e8 : Int) (ok : Bool) (i : Int) : St := ⟨tR b ok i, [], Tr.rebuild (HD none Lw L p n c q m d e e8) 18, 18, 2, [], fun _ => false, True, []⟩
def st (M : List Int) (i : Int) : List Int := M.set (ix i) (IntKind.u8.wrap (M.getD (ix i) 0 + 1))
section
variable (M M0 : List Int) (Lw L : List Int) (b : Nat) (p n c q m d : Nat) (e e8 : Int) (ok : Bool) (i : Int) (rd : Option Nat)
theorem kE : ((mk Try.prog Given.nothing 200).code 11 rd lb11 { sE M Lw L b p n c q m d e e8 ok with obl := True, orc := oLp }).map (fun r => (r.1, r.2.obl, seenIn r.2 (sR (st M 0) Lw L b p n c q m d e e8 ok (i1 0)) [])) = some (.normal, pL M b 0, seenAs (sR (st M 0) Lw L b p n c q m d e e8 ok (i1 0)) [] 18) := by kernel_rfl
theorem kR : ((mk Try.prog Given.nothing 200).code 11 rd lb11 { sR M Lw L b p n c q m d e e8 ok i with obl := True, orc := oLp }).map (fun r => (r.1, r.2.obl, seenIn r.2 (sR (st M i) Lw L b p n c q m d e e8 ok (i1 i)) [])) = some (.normal, pL M b i, seenAs (sR (st M i) Lw L b p n c q m d e e8 ok (i1 i)) [] 18) := by kernel_rfl
theorem kX : ((mk Try.prog Given.nothing 200).code 11 rd lb11 { sR M Lw L b p n c q m d e e8 ok i with obl := True, orc := [some false] }).map (fun r => (r.1, r.2.obl, seenIn r.2 (sZ Lw L b p n c q m d e e8 ok i) [])) = some (.exit 0, True ∧ decide (i < (b : Int)) = false, seenAs (sZ Lw L b p n c q m d e e8 ok i) [] 18) := by kernel_rfl
theorem stE (hp : pL M b 0) : Step Try.prog rd (sE M0 Lw L b p n c q m d e e8 ok) lb11 (sE M Lw L b p n c q m d e e8 ok) (fun e' t => e' = .normal ∧ t = sR (st M 0) Lw L b p n c q m d e e8 ok (i1 0)) :=
  Step.std pg (GivenOk.nothing _) (kE M Lw L b p n c q m d e e8 ok rd) hp (show 18 ≤ 18 by decide) (g := HD (some (st M 0)) Lw L p n c q m d e e8) rfl (by kernel_rfl)
theorem stR (hp : pL M b i) : Step Try.prog rd (sE M0 Lw L b p n c q m d e e8 ok) lb11 (sR M Lw L b p n c q m d e e8 ok i) (fun e' t => e' = .normal ∧ t = sR (st M i) Lw L b p n c q m d e e8 ok (i1 i)) :=
  Step.std pg (GivenOk.nothing _) (kR M Lw L b p n c q m d e e8 ok i rd) hp (show 18 ≤ 18 by decide) (g := HD (some (st M i)) Lw L p n c q m d e e8) rfl (by kernel_rfl)
theorem stX (hp : True ∧ decide (i < (b : Int)) = false) : Step Try.prog rd (sE M0 Lw L b p n c q m d e e8 ok) lb11 (sR M Lw L b p n c q m d e e8 ok i) (fun e' t => e' = .exit 0 ∧ t = sZ Lw L b p n c q m d e e8 ok i) :=
  Step.std pg (GivenOk.nothing _) (kX M Lw L b p n c q m d e e8 ok i rd) hp (show 18 ≤ 18 by decide) (g := HD none Lw L p n c q m d e e8) rfl (by kernel_rfl)
end
theorem loopD (M : List Int) (Lw L : List Int) (b : Nat) (p n c q m d : Nat) (e e8 : Int) (ok : Bool) (hM : M.length = b) (h0 : 0 < b) (hm : b ≤ 4000) (rd : Option Nat) : CodeOk Try.prog rd (.loop lb11) (sE M Lw L b p n c q m d e e8 ok) (.exit 0) (sZ Lw L b p n c q m d e e8 ok (b : Int)) := by
  refine CodeOk.of_step (Step.loop (fun f t => (f = b ∧ t = sE M Lw L b p n c q m d e e8 ok) ∨ ∃ (j : Nat) (M' : List Int), 1 ≤ j ∧ j ≤ b ∧ f = b - j ∧ M'.length = b ∧ t = sR M' Lw L b p n c q m d e e8 ok (j : Int)) ?_ b _ (.inl ⟨rfl, rfl⟩))
  rintro f t (⟨rfl, rfl⟩ | ⟨j, M', g1, g2, rfl, g3, rfl⟩)
  · refine (stE M M Lw L f p n c q m d e e8 ok rd (pL_of (j := 0) hM h0)).mono ?_
    rintro e' t ⟨rfl, rfl⟩
    exact .inl ⟨rfl, f - 1, by omega, .inr ⟨1, st M 0, by omega, by omega, rfl, by unfold st; rw [List.length_set]; exact hM, by rw [show i1 0 = ((1 : Nat) : Int) from i1_eq (j := 0) (by omega)]⟩⟩
  · by_cases hj : j = b
    · subst hj
      refine (stX M' M Lw L j p n c q m d e e8 ok (j : Int) rd ⟨trivial, by rw [decide_eq_false_iff_not]; omega⟩).mono ?_
      rintro e' t ⟨rfl, rfl⟩
      exact .inr ⟨(by intro x; cases x), rfl, rfl⟩
    · refine (stR M' M Lw L b p n c q m d e e8 ok (j : Int) rd (pL_of g3 (by omega))).mono ?_
      rintro e' t ⟨rfl, rfl⟩
      exact .inl ⟨rfl, b - (j + 1), by omega, .inr ⟨j + 1, st M' (j : Int), by omega, by omega, rfl, by unfold st; rw [List.length_set]; exact g3, by rw [i1_eq (by omega)]⟩⟩
end
end fe
end Go.Proofs.Ytiangelmpnnijaa
namespace Go.Proofs.Ytiangelmpnnijaa
open Go.ChangeShapes Go.WideShapes Go.ChangeAt Go.RowKit Go.Cln
namespace fe
open fr fc
set_option linter.unusedVariables false
noncomputable section
def T0 (L : List Int) (n : Nat) : List Int := List.take n (List.drop 0 L)
def zN (L : List Int) (n : Nat) : Nat := (sz (T0 L n)).toNat
def askD (X : St) (f : FuncId) (c : Code) (s : St) : Option Ask3 := if f == 11 then (match getL s.tmps 11 with
  | .slice (some ⟨_, _, some 1⟩) _ _ => some ⟨tplD, [2, 4, 8, 16], .exit 0, fun _ => X⟩
  | _ => none) else none
def KA (EC : TE) (X : St) : Given := { Given.framesO (Given.asking3 Given.nothing Try.prog (askD X)) (FC EC) with fits := true }
theorem KA_ok (EC : TE) (X : St) : GivenOk Try.prog (KA EC X) := frames_fits (((GivenOk.nothing _).asking3 (askD X)).framesO (FC_ok EC)) true
def aR (EC : TE) (Lw : List Int) (m : Nat) : Prop := EC = eF ∧ Byt (T0 Lw m) ∧ m = (T0 Lw m).length ∧ ¬ okF (T0 Lw m) m
def aC (EC : TE) (L : List Int) (n c : Nat) : Prop := EC = eF ∧ Byt (T0 L n) ∧ n = (T0 L n).length ∧ n ≤ c ∧ n ≤ 4000 ∧ ¬ okF (T0 L n) n
def oR (Lw : List Int) (m d : Nat) : Prop := Byt (T0 Lw m) ∧ m = (T0 Lw m).length ∧ m ≤ d ∧ okF (T0 Lw m) m
def oC (L : List Int) (n c : Nat) (A : Prop) : Prop := Byt (T0 L n) ∧ n = (T0 L n).length ∧ n ≤ c ∧ n ≤ 4000 ∧ okF (T0 L n) n ∧ A
def XD (Lw L : List Int) (m d n c : Nat) (e e2 : Int) : St := sZ Lw L (zN L n - 19) (0 + zN L n * 1) (n - zN L n) (c - zN L n) (0 + zN Lw m * 1) (m - zN Lw m) (d - zN Lw m) e2 e true ((zN L n - 19 : Nat) : Int)
def lpD (Lw L : List Int) (m d n c : Nat) (e e2 : Int) : Prop := ∀ rd, CodeOk Try.prog rd (.loop lb11) (sE (bdy (T0 L n)) Lw L (zN L n - 19) (0 + zN L n * 1) (n - zN L n) (c - zN L n) (0 + zN Lw m * 1) (m - zN Lw m) (d - zN Lw m) e2 e true) (.exit 0) (XD Lw L m d n c e e2)
def hp11 (Lw L : List Int) (o : Ob) (k : Nat) : List (Option Ob) := some (.cells (.ints .u8 Lw) 5) :: some (.cells (.ints .u8 L) 5) :: some o :: List.replicate k none
def ks11 (k : Nat) : List Bool := true :: true :: true :: List.replicate k false
variable (EC : TE) (Lw L : List Int) (m d n c : Nat) (e e2 : Int)
def pA : Prop := ((True ∧ (e != 0) = true) ∧ (e2 != 0) = true)
theorem runA : (c11 (KA EC (XD Lw L m d n c e e2)) Lw L m d n c e e2 [some true, none, none, none, none, none, none, none, some true]).map (fun r => (r.1, r.2.obl, r.2.next, keepL (ks11 7) r.2.heap.get 0)) = some (.tuple #[wnt (rw1 0 0 m d) e, .bool (decide (e2 = e))], pA e e2, (hp11 Lw L (oF e2 (rw1 1 0 n c)) 7).length, hp11 Lw L (oF e2 (rw1 1 0 n c)) 7) := by kernel_rfl
def pB : Prop := (((((True ∧ (e != 0) = false) ∧ aR EC Lw m) ∧ (EC (T0 Lw m) m != 0) = true) ∧ (e2 != 0) = false) ∧ aC EC L n c)
theorem runB : (c11 (KA EC (XD Lw L m d n c e e2)) Lw L m d n c e e2 [some false, some false, some true, none, none, none, none, none, none, none, some false, some false]).map (fun r => (r.1, r.2.obl, r.2.next, keepL (ks11 13) r.2.heap.get 0)) = some (.tuple #[wnt (rw1 0 0 m d) (EC (T0 Lw m) m), .bool (decide (EC (T0 L n) n = EC (T0 Lw m) m))], pB EC Lw L m n c e e2, (hp11 Lw L (oF (EC (T0 L n) n) (rw1 1 0 n c)) 13).length, hp11 Lw L (oF (EC (T0 L n) n) (rw1 1 0 n c)) 13) := by kernel_rfl
def pC : Prop := (((((True ∧ (e != 0) = false) ∧ aR EC Lw m) ∧ (EC (T0 Lw m) m != 0) = false) ∧ (e2 != 0) = false) ∧ aC EC L n c)
theorem runC : (c11 (KA EC (XD Lw L m d n c e e2)) Lw L m d n c e e2 [some false, some false, some false, none, none, none, none, none, none, none, none, some false, some false]).map (fun r => (r.1, r.2.obl, r.2.next, keepL (ks11 13) r.2.heap.get 0)) = some (.tuple #[wnt (rw1 0 0 m d) e, .bool (decide (EC (T0 L n) n = 0))], pC EC Lw L m n c e e2, (hp11 Lw L (oF (EC (T0 L n) n) (rw1 1 0 n c)) 13).length, hp11 Lw L (oF (EC (T0 L n) n) (rw1 1 0 n c)) 13) := by kernel_rfl
def pD : Prop := (((((((((((((True ∧ (e != 0) = false) ∧ oR Lw m d) ∧ (sz (T0 Lw m) == 0) = false) ∧ (0 ≤ (m : Int) ∧ (m : Int) ≤ (d : Int) ∧ 0 ≤ sz (T0 Lw m) ∧ sz (T0 Lw m) ≤ (m : Int))) ∧ (e2 != 0) = false) ∧ (oC L n c (19 < sz (T0 L n)))) ∧ (sz (T0 L n) == 0) = false) ∧ (0 ≤ (n : Int) ∧ (n : Int) ≤ (c : Int) ∧ 0 ≤ sz (T0 L n) ∧ sz (T0 L n) ≤ (n : Int))) ∧ ((T0 L n).getD 18 0 == (T0 Lw m).getD 18 0) = true) ∧ 0 + (zN L n - 19) ≤ (bdy (T0 L n)).length) ∧ 19 + (zN Lw m - 19) ≤ Lw.length) ∧ beqB (bytesI (List.take (zN L n - 19) (List.drop 0 (bdy (T0 L n))))).toList (bytesI (List.take (zN Lw m - 19) (List.drop 19 Lw))).toList = true) ∧ lpD Lw L m d n c e e2)
theorem runD : (c11 (KA EC (XD Lw L m d n c e e2)) Lw L m d n c e e2 [some false, some true, none, some false, some true, none, none, none, none, none, none, none, some false, some true, some true, some false, none, some true, some true, none, none, none, none, none, none, some true]).map (fun r => (r.1, r.2.obl, r.2.next, keepL (ks11 15) r.2.heap.get 0)) = some (.tuple #[wnt (rw1 0 (0 + zN Lw m * 1) (m - zN Lw m) (d - zN Lw m)) e, .bool (true)], pD Lw L m d n c e e2, (hp11 Lw L (oF e2 (rw1 1 (0 + zN L n * 1) (n - zN L n) (c - zN L n))) 15).length, hp11 Lw L (oF e2 (rw1 1 (0 + zN L n * 1) (n - zN L n) (c - zN L n))) 15) := by kernel_rfl
def pZ : Prop := (((((((((((True ∧ (e != 0) = false) ∧ oR Lw m d) ∧ (sz (T0 Lw m) == 0) = false) ∧ (0 ≤ (m : Int) ∧ (m : Int) ≤ (d : Int) ∧ 0 ≤ sz (T0 Lw m) ∧ sz (T0 Lw m) ≤ (m : Int))) ∧ (e2 != 0) = false) ∧ (oC L n c (sz (T0 L n) = 19))) ∧ (sz (T0 L n) == 0) = false) ∧ (0 ≤ (n : Int) ∧ (n : Int) ≤ (c : Int) ∧ 0 ≤ sz (T0 L n) ∧ sz (T0 L n) ≤ (n : Int))) ∧ ((T0 L n).getD 18 0 == (T0 Lw m).getD 18 0) = true) ∧ 19 + (zN Lw m - 19) ≤ Lw.length) ∧ beqB [] (bytesI (List.take (zN Lw m - 19) (List.drop 19 Lw))).toList = true)
theorem runZ : (c11 (KA EC (XD Lw L m d n c e e2)) Lw L m d n c e e2 [some false, some true, none, some false, some true, none, none, none, none, none, none, none, some false, some true, some false, some false, none, some true, some true, none, none, none, none, none, none, some true]).map (fun r => (r.1, r.2.obl, r.2.next, keepL (ks11 14) r.2.heap.get 0)) = some (.tuple #[wnt (rw1 0 (0 + zN Lw m * 1) (m - zN Lw m) (d - zN Lw m)) e, .bool (true)], pZ Lw L m d n c e e2, (hp11 Lw L (oF e2 (rw1 1 (0 + zN L n * 1) (n - zN L n) (c - zN L n))) 14).length, hp11 Lw L (oF e2 (rw1 1 (0 + zN L n * 1) (n - zN L n) (c - zN L n))) 14) := by kernel_rfl
end
end fe
end Go.Proofs.Ytiangelmpnnijaa
namespace Go.Proofs.Ytiangelmpnnijaa
open Go.ChangeShapes Go.WideShapes Go.ChangeAt Go.RowKit Go.Cln
namespace fe
open fr fc
set_option linter.unusedVariables false
noncomputable section
theorem eZ : beqB [] (bytesI []).toList = true := by kernel_rfl
def a11 (m d : Nat) (e : Int) : List Value := [.pointer (some ⟨2, 0, none⟩), wnt (rw1 0 0 m d) e]
def v11 (v : Value) : Value := .tuple #[v, .bool true]
theorem T0_eq {L : List Int} {n : Nat} (h : n = L.length) : T0 L n = L := by unfold T0; rw [List.drop_zero, h, List.take_length]
theorem cA {Lw L : List Int} {m d n c : Nat} {e e2 : Int} (he : e ≠ 0) (h2 : e2 = e) : CallOk Try.prog 11 (a11 m d e) (smSt 2 (h11 Lw L n c e2) []) (v11 (wnt (rw1 0 0 m d) e)) (smSt 2 (hp11 Lw L (oF e2 (rw1 1 0 n c)) 7) []) := by
  subst h2
  have hb : (e2 != 0) = true := by simpa using he
  have := frame_by pg (KA_ok eF (XD Lw L m d n c e2 e2)) (ks11 7) (runA eF Lw L m d n c e2 e2) ⟨⟨trivial, hb⟩, hb⟩ (by rfl) rfl
  rw [show decide (e2 = e2) = true from decide_eq_true rfl] at this
  exact this
structure Both (Lw L : List Int) (m d n c : Nat) (e e2 : Int) : Prop where
  qw : Lw = L
  qm : m = n
  qe : e = 0
  qe2 : e2 = 0
  qB : Byt L
  qn : n = L.length
  qc : n ≤ c
  qd : m ≤ d
  qf : n ≤ 4000
theorem cB {Lw L : List Int} {m d n c : Nat} {e e2 : Int} (h : Both Lw L m d n c e e2) (h1 : ¬ okF L n) (h2 : eF L n ≠ 0) : CallOk Try.prog 11 (a11 m d e) (smSt 2 (h11 Lw L n c e2) []) (v11 (wnt (rw1 0 0 m d) (eF L n))) (smSt 2 (hp11 Lw L (oF (eF L n) (rw1 1 0 n c)) 13) []) := by
  obtain ⟨rfl, rfl, rfl, rfl, h3, h4, h5, h6, h7⟩ := h
  have e0 := T0_eq h4
  have p : pB eF Lw Lw m m c 0 0 := by
    unfold pB aR aC
    rw [e0]
    exact ⟨⟨⟨⟨⟨trivial, rfl⟩, rfl, h3, h4, h1⟩, by simpa using h2⟩, rfl⟩, rfl, h3, h4, h5, h7, h1⟩
  have := frame_by pg (KA_ok eF (XD Lw Lw m d m c 0 0)) (ks11 13) (runB eF Lw Lw m d m c 0 0) p (by rfl) rfl
  rw [e0, show decide (eF Lw m = eF Lw m) = true from decide_eq_true rfl] at this
  exact this
theorem cC {Lw L : List Int} {m d n c : Nat} {e e2 : Int} (h : Both Lw L m d n c e e2) (h1 : ¬ okF L n) (h2 : eF L n = 0) : CallOk Try.prog 11 (a11 m d e) (smSt 2 (h11 Lw L n c e2) []) (v11 (wnt (rw1 0 0 m d) e)) (smSt 2 (hp11 Lw L (oF e2 (rw1 1 0 n c)) 13) []) := by
  obtain ⟨rfl, rfl, rfl, rfl, h3, h4, h5, h6, h7⟩ := h
  have e0 := T0_eq h4
  have p : pC eF Lw Lw m m c 0 0 := by
    unfold pC aR aC
    rw [e0]
    exact ⟨⟨⟨⟨⟨trivial, rfl⟩, rfl, h3, h4, h1⟩, by simpa using h2⟩, rfl⟩, rfl, h3, h4, h5, h7, h1⟩
  have := frame_by pg (KA_ok eF (XD Lw Lw m d m c 0 0)) (ks11 13) (runC eF Lw Lw m d m c 0 0) p (by rfl) rfl
  rw [e0, h2, show decide ((0 : Int) = 0) = true from decide_eq_true rfl] at this
  exact this
def zf (L : List Int) : Nat := (sz L).toNat
theorem okF_z {L : List Int} {n : Nat} (h : okF L n) : ((zf L : Nat) : Int) = sz L ∧ 19 ≤ zf L ∧ zf L ≤ 512 ∧ zf L ≤ n := by
  obtain ⟨h1, h2, h3, h4, h5, h6, h7⟩ := h
  unfold zf
  omega
theorem cD {Lw L : List Int} {m d n c : Nat} {e e2 : Int} (h : Both Lw L m d n c e e2) (h1 : okF L n) :
    CallOk Try.prog 11 (a11 m d e) (smSt 2 (h11 Lw L n c e2) []) (v11 (wnt (rw1 0 (zf L) (m - zf L) (d - zf L)) e)) (smSt 2 (hp11 Lw L (oF e2 (rw1 1 (zf L) (n - zf L) (c - zf L))) 15) []) := by
  obtain ⟨rfl, rfl, rfl, rfl, h3, h4, h5, h6, h7⟩ := h
  have e0 := T0_eq h4
  obtain ⟨z1, z2, z3, z4⟩ := okF_z h1
  have ez : zN Lw m = zf Lw := by unfold zN zf; rw [e0]
  have s0 : (sz Lw == 0) = false := by simp; omega
  have ew : 0 + zf Lw * 1 = zf Lw := by omega
  have bd : (bdy Lw).length = zf Lw - 19 := by unfold bdy; rw [List.length_take, List.length_drop]; unfold zf at *; omega
  by_cases h19 : 19 < sz Lw
  · have p : pD Lw Lw m d m c 0 0 := by
      unfold pD oR oC lpD XD
      rw [e0, ez]
      refine ⟨⟨⟨⟨⟨⟨⟨⟨⟨⟨⟨⟨⟨trivial, rfl⟩, h3, h4, h6, h1⟩, s0⟩, by omega, by omega, by omega, by omega⟩, rfl⟩, h3, h4, h5, h7, h1, h19⟩, s0⟩, by omega, by omega, by omega, by omega⟩, beq_self_eq_true _⟩, by omega⟩, by omega⟩, ?_⟩, fun rd => ?_⟩
      · refine beqB_of ?_
        unfold bdy
        rw [List.drop_zero, List.take_take]
        congr 1
        unfold zf; omega
      · exact loopD (bdy Lw) _ _ _ _ _ _ _ _ _ _ _ _ bd (by omega) (by omega) rd
    have := frame_by pg (KA_ok eF (XD Lw Lw m d m c 0 0)) (ks11 15) (runD eF Lw Lw m d m c 0 0) p (by rfl) rfl
    rw [ez, ew] at this
    exact this
  · have h20 : sz Lw = 19 := by have := h1.2.2.1; omega
    have p : pZ Lw Lw m d m c 0 0 := by
      unfold pZ oR oC
      rw [e0, ez]
      refine ⟨⟨⟨⟨⟨⟨⟨⟨⟨⟨⟨trivial, rfl⟩, h3, h4, h6, h1⟩, s0⟩, by omega, by omega, by omega, by omega⟩, rfl⟩, h3, h4, h5, h7, h1, h20⟩, s0⟩, by omega, by omega, by omega, by omega⟩, beq_self_eq_true _⟩, by omega⟩, ?_⟩
      have : zf Lw - 19 = 0 := by omega
      rw [this, List.take_zero]; exact eZ
    have := frame_by pg (KA_ok eF (XD Lw Lw m d m c 0 0)) (ks11 14) (runZ eF Lw Lw m d m c 0 0) p (by rfl) rfl
    rw [ez, ew] at this
    have := this.pad 1 (by simp [hp11]) (by simp [h11]) (by simp [h11, hp11])
    exact this
def IN (wb p fb o q : Nat) (Wl Ll : List Int) (m d n c : Nat) (e e2 : Int) (v : Value) (ob : Ob) (k : Nat) (ask : Prop) : Inst := ⟨[(wb, p), (fb, o), (q, 0)], 2, h11 Wl Ll n c e2, a11 m d e, v11 v, hp11 Wl Ll ob k, ask⟩
def FN (EC : TE) (ZN : List Int → Nat) (f : FuncId) (args : List Value) (s : St) : Option (Inst × Nat) := if f == 11 then (match args with
  | [.pointer (some ⟨q, 0, none⟩), .agg ⟨[.slice (some ⟨wb, p, some 1⟩) m d, .int .i64 e]⟩] => (match s.heap.get q with
    | some (.cells (.lit [.slice (some ⟨fb, o, some 1⟩) n c, .int .i64 e2, .bool true]) _) => (match s.heap.get wb with
      | some (.cells (.ints .u8 Lw) _) => (match s.heap.get fb with
        | some (.cells (.ints .u8 L) _) => (match s.orc with
          | some true :: _ => some (IN wb p fb o q ((Lw.drop p).take m) ((L.drop o).take n) m d n c e e2 (wnt (rw1 0 0 m d) e) (oF e2 (rw1 1 0 n c)) 7 (e ≠ 0 ∧ e2 = e), 1)
          | some false :: some true :: _ => some (IN wb p fb o q ((Lw.drop p).take m) ((L.drop o).take n) m d n c e e2 (wnt (rw1 0 0 m d) (EC ((L.drop o).take n) n)) (oF (EC ((L.drop o).take n) n) (rw1 1 0 n c)) 13 (EC = eF ∧ Both ((Lw.drop p).take m) ((L.drop o).take n) m d n c e e2 ∧ ¬ okF ((L.drop o).take n) n ∧ eF ((L.drop o).take n) n ≠ 0), 2)
          | some false :: some false :: some true :: _ => some (IN wb p fb o q ((Lw.drop p).take m) ((L.drop o).take n) m d n c e e2 (wnt (rw1 0 (ZN ((L.drop o).take n)) (m - ZN ((L.drop o).take n)) (d - ZN ((L.drop o).take n))) e) (oF e2 (rw1 1 (ZN ((L.drop o).take n)) (n - ZN ((L.drop o).take n)) (c - ZN ((L.drop o).take n)))) 15 (ZN = zf ∧ Both ((Lw.drop p).take m) ((L.drop o).take n) m d n c e e2 ∧ okF ((L.drop o).take n) n), 3)
          | some false :: some false :: some false :: _ => some (IN wb p fb o q ((Lw.drop p).take m) ((L.drop o).take n) m d n c e e2 (wnt (rw1 0 0 m d) e) (oF e2 (rw1 1 0 n c)) 13 (Both ((Lw.drop p).take m) ((L.drop o).take n) m d n c e e2 ∧ ¬ okF ((L.drop o).take n) n ∧ eF ((L.drop o).take n) n = 0), 3)
          | _ => none)
        | _ => none)
      | _ => none)
    | _ => none)
  | _ => none) else none
theorem fit_IN {s : St} {wb p fb o q : Nat} {Lw L : List Int} {tw tf tq : TypeId} {m d n c k : Nat} {e e2 : Int} {v : Value} {ob : Ob} {ask : Prop} (hq : s.heap.get q = some (.cells (.lit [.slice (some ⟨fb, o, some 1⟩) n c, .int .i64 e2, .bool true]) tq))
    (hw : s.heap.get wb = some (.cells (.ints .u8 Lw) tw)) (hf : s.heap.get fb = some (.cells (.ints .u8 L) tf)) : Fits s (IN wb p fb o q ((Lw.drop p).take m) ((L.drop o).take n) m d n c e e2 v ob k ask) [.pointer (some ⟨q, 0, none⟩), .agg ⟨[.slice (some ⟨wb, p, some 1⟩) m d, .int .i64 e]⟩] := by
  refine ⟨?_, fun j pp ob' h1 h2 => ?_⟩
  · show [Value.pointer (some ⟨q, 0, none⟩), .agg #[.slice (some ⟨wb, p, some 1⟩) m d, .int .i64 e]] = [Value.pointer (some ⟨q, addO 0 0, none⟩), .agg #[.slice (some ⟨wb, addO p 0, some 1⟩) m d, .int .i64 e]]
    rw [addO_eq, addO_eq]; rfl
  · rcases j with _ | _ | _ | j
    · simp only [IN, List.getElem?_cons_zero, Option.some.injEq] at h1
      simp only [IN, h11, List.getElem?_cons_zero, Option.some.injEq] at h2
      subst h1; subst h2
      exact ⟨_, hw, fit_ints⟩
    · simp only [IN, Nat.zero_add, List.getElem?_cons_succ, List.getElem?_cons_zero, Option.some.injEq] at h1
      simp only [IN, h11, Nat.zero_add, List.getElem?_cons_succ, List.getElem?_cons_zero, Option.some.injEq] at h2
      subst h1; subst h2
      exact ⟨_, hf, fit_ints⟩
    · simp only [IN, Nat.zero_add, Nat.reduceAdd, List.getElem?_cons_succ, List.getElem?_cons_zero, Option.some.injEq] at h1
      simp only [IN, h11, oF, rw1, Nat.zero_add, Nat.reduceAdd, List.getElem?_cons_succ, List.getElem?_cons_zero, Option.some.injEq] at h2
      subst h1; subst h2
      refine ⟨_, hq, fun x v hv => ?_⟩
      have hv : [Value.slice (some ⟨1, 0, some 1⟩) n c, .int .i64 e2, .bool true][x]? = some v := hv
      rcases x with _ | _ | _ | x
      · cases hv
        refine ⟨_, rfl, ?_, rfl⟩
        show Value.slice (some ⟨fb, o, some 1⟩) n c = Value.slice (some ⟨fb, addO o 0, some 1⟩) n c
        rw [addO_eq]; rfl
      · cases hv; exact ⟨_, rfl, rfl, rfl⟩
      · cases hv; exact ⟨_, rfl, rfl, rfl⟩
      · cases hv
    · simp [IN] at h1
theorem FN_ok (EC : TE) (ZN : List Int → Nat) (f : FuncId) (args : List Value) (s : St) (i : Inst) (k : Nat) (h : FN EC ZN f args s = some (i, k)) : Fits s i args ∧ (i.ask → CallOk Try.prog f i.args i.s0 i.val i.s1) := by
  unfold FN at h
  split at h
  · rename_i hf
    have hf' : f = 11 := by simpa using hf
    subst hf'
    split at h
    · rename_i q wb p m d e
      split at h
      · rename_i fb o n c e2 tq hq
        split at h
        · rename_i Lw tw hw
          split at h
          · rename_i L tf hl
            split at h
            · cases h
              exact ⟨fit_IN hq hw hl, fun ⟨g1, g2⟩ => cA g1 g2⟩
            · cases h
              exact ⟨fit_IN hq hw hl, fun ⟨g0, g1, g2, g3⟩ => by cases (show EC = eF from g0); exact cB g1 g2 g3⟩
            · cases h
              exact ⟨fit_IN hq hw hl, fun ⟨g0, g1, g2⟩ => by cases (show ZN = zf from g0); exact cD g1 g2⟩
            · cases h
              exact ⟨fit_IN hq hw hl, fun ⟨g1, g2, g3⟩ => cC g1 g2 g3⟩
            · cases h
          · cases h
        · cases h
      · cases h
    · cases h
  · cases h
def KF (EC : TE) (ZN : List Int → Nat) : Given := { Given.framesO (Given.one 6 (.bool true)) (FN EC ZN) with fits := true }
theorem KF_ok (EC : TE) (ZN : List Int → Nat) : GivenOk Try.prog (KF EC ZN) := frames_fits ((GivenOk.one (P := Try.prog) (f := 6) (v := .bool true) rfl known).framesO (FN_ok EC ZN)) true
end
end fe
end Go.Proofs.Ytiangelmpnnijaa
