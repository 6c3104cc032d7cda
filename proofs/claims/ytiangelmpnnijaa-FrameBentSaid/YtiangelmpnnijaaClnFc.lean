/- Read off the code by the clean reading. -/
import Derived.Test.YtiangelmpnnijaaClnFb
import Derived.Test.YtiangelmpnnijaaClnQc
import Derived.Test.YtiangelmpnnijaaClnQd
set_option linter.unusedVariables false
set_option linter.unusedSimpArgs false
set_option linter.deprecated false
set_option maxRecDepth 100000
namespace Go.Proofs.Ytiangelmpnnijaa
open Go.ChangeShapes Go.WideShapes Go.ChangeAt Go.RowKit Go.Cln
namespace ff
open fr fc fe
set_option linter.unusedVariables false
noncomputable section
structure BX where
  D : Nat → List Int
  k : Nat → Int
  Q : Nat → Nat
  m : Nat → Nat
  c : Nat → Nat
def BX.row (x : BX) (i : Nat) : List Value := [.int .i64 (x.k i), .slice (some ⟨x.Q i, 0, some 1000⟩) (x.m i) (x.c i)]
def BX.F (x : BX) (g P : Nat) : Cells := .ints .u8 (x.D P)
def dropC : Nat → Code → Code
  | 0, c => c
  | k + 1, .seq x y => dropC k y
  | _ + 1, c => c
def fstC : Code → Code
  | .seq x _ => x
  | c => c
noncomputable def bodyC : Code := ((Try.prog.funcs[4]?).bind (·.body)).getD .skip
noncomputable def lb : Code := loopB Try.prog 4 0
noncomputable def lb2 : Code := loopB Try.prog 4 1
structure Y where
  n : Nat
  c : Nat
  a : Int
  w : Int
def aL (y : Y) : List Value := [.slice (some ⟨1, 0, none⟩) y.n y.c, .int .i64 y.a, .int .u8 y.w]
def hB (x : BX) (y : Y) : List (Option Ob) := [some (.fam x.F), some (.cells (.rows y.n 2 x.row) 0)]
def s00 (x : BX) (y : Y) (N : Nat) : St := ⟨aL y ++ List.replicate N undef, [], Tr.ofL (hB x y), 2, 2, [], fun _ => false, True, []⟩
def go0 (EC : TE) (ZN : List Int → Nat) (x : BX) (y : Y) (k : Nat) (o : List (Option Bool)) : Option (St × Code) := runRow (mk Try.prog (KF EC ZN) 300) 4 none k bodyC { s00 x y 96 with obl := True, orc := o }
end
end ff
end Go.Proofs.Ytiangelmpnnijaa
namespace Go.Proofs.Ytiangelmpnnijaa
open Go.ChangeShapes Go.WideShapes Go.ChangeAt Go.RowKit Go.Cln
namespace ff
open fr fc fe
set_option linter.unusedVariables false
noncomputable section
def vs (v : Nat → Value) (b : Nat) : Nat → List Value → List Value
  | 0, l => l
  | k + 1, l => vs v b k (v (b + k) :: l)
theorem deadT_vs {B : Nat → Bool} {v : Nat → Value} (h : ∀ i, DeadV (v i)) : ∀ (n : Nat) {a b : Nat} {l : List Value}, deadT B (a + n) l → deadT B a (vs v b n l)
  | 0, _, _, _, g => g
  | n + 1, a, b, l, g => deadT_vs h n (a := a) (b := b) (l := v (b + n) :: l) ⟨fun _ => h _, g⟩
abbrev VF := Nat → Value
def tmS (v : VF) (y : Y) (bt : Value) (k : Nat) : List Value := (.slice (some ⟨1, 0, none⟩) y.n y.c :: .int .i64 y.a :: .int .u8 y.w :: vs v 3 3 (.bool false :: bt :: .int .i64 (nI k) :: vs v 9 90 []))
theorem tmS_dead {v : VF} {y : Y} {bt : Value} {k : Nat} {B : Nat → Bool} (h : ∀ i, DeadV (v i)) (hB : ∀ i, ((Nat.ble 0 i && Nat.ble i 2) || (Nat.ble 6 i && Nat.ble i 8)) = true → B i = true) : deadT B 0 (tmS v y bt k) :=
  ⟨fun e => absurd e (by rw [hB 0 rfl]; decide), ⟨fun e => absurd e (by rw [hB 1 rfl]; decide), ⟨fun e => absurd e (by rw [hB 2 rfl]; decide), deadT_vs h 3 (⟨fun e => absurd e (by rw [hB 6 rfl]; decide), ⟨fun e => absurd e (by rw [hB 7 rfl]; decide), ⟨fun e => absurd e (by rw [hB 8 rfl]; decide), deadT_vs h 90 (trivial)⟩⟩⟩)⟩⟩⟩
def hS (x : BX) (y : Y) (r : Option Ob) : Nat → Option Ob := fun i => match i with
  | 0 => some (.fam x.F)
  | 1 => some (.cells (.rows y.n 2 x.row) 0)
  | 2 => r
  | _ => none
def sS (x : BX) (y : Y) (bt : Value) (r : Option Ob) (k : Nat) (v : VF) (nx : Nat) : St := ⟨tmS v y bt k, [], Tr.rebuild (hS x y r) nx, nx, 2, [], fun _ => false, True, []⟩
def sN (x : BX) (y : Y) (k : Nat) (v : VF) : St := sS x y (.slice none 0 0) none k v 2
def sR (x : BX) (y : Y) (M : List Int) (n q : Nat) (k : Nat) (v : VF) : St := sS x y (.slice (some ⟨2, 0, some 1⟩) n q) (some (.cells (.ints .u8 M) 5)) k v 3
def goL (x : BX) (S : St) (o : List (Option Bool)) : Option (Exit × St) := (mk Try.prog (KF eF zf) 300).code 4 none lb { S with obl := True, orc := o }
end
end ff
end Go.Proofs.Ytiangelmpnnijaa
namespace Go.Proofs.Ytiangelmpnnijaa
open Go.ChangeShapes Go.WideShapes Go.ChangeAt Go.RowKit Go.Cln
namespace ff
open fr fc fe
set_option linter.unusedVariables false
noncomputable section
def WL (i : Nat) : Bool := (Nat.ble 9 i && Nat.ble i 10) || (Nat.ble 22 i && Nat.ble i 27) || (Nat.ble 29 i && Nat.ble i 38) || (Nat.ble 40 i && Nat.ble i 48) || (Nat.ble 50 i && Nat.ble i 52)
def VL (v : VF) : VF := fun i => match Nat.beq i 28 with
  | true => .tuple #[junk, junk]
  | false => match Nat.beq i 39 with
  | true => .tuple #[junk, junk]
  | false => match WL i with
  | true => junk
  | false => v i
def BL (i : Nat) : Bool := ((Nat.ble 0 i && Nat.ble i 2) || (Nat.ble 6 i && Nat.ble i 8)) || WL i || Nat.beq i 28 || Nat.beq i 39
theorem VL_dead {v : VF} (h : ∀ i, DeadV (v i)) (i : Nat) : DeadV (VL v i) := by
  unfold VL
  split
  · exact ⟨rfl, fun _ => rfl, fun _ => rfl⟩
  split
  · exact ⟨rfl, fun _ => rfl, fun _ => rfl⟩
  split
  · exact DeadV.junk
  · exact h i
theorem lvL (i : Nat) (h : ((Nat.ble 0 i && Nat.ble i 2) || (Nat.ble 6 i && Nat.ble i 8)) = true) : BL i = true := by
  unfold BL
  simp only [Bool.or_eq_true] at h ⊢
  refine .inl ?_
  refine .inl ?_
  exact .inl h
def WE (i : Nat) : Bool := (Nat.ble 22 i && Nat.ble i 25)
def VE (v : VF) : VF := fun i => match WE i with
  | true => junk
  | false => v i
def BE (i : Nat) : Bool := ((Nat.ble 0 i && Nat.ble i 2) || (Nat.ble 6 i && Nat.ble i 8)) || WE i
theorem VE_dead {v : VF} (h : ∀ i, DeadV (v i)) (i : Nat) : DeadV (VE v i) := by
  unfold VE
  split
  · exact DeadV.junk
  · exact h i
theorem lvE (i : Nat) (h : ((Nat.ble 0 i && Nat.ble i 2) || (Nat.ble 6 i && Nat.ble i 8)) = true) : BE i = true := by
  unfold BE
  simp only [Bool.or_eq_true] at h ⊢
  exact .inl h
def ik (k : Nat) : Nat := (0 + k * 2 + 0) / 2
def jk (k : Nat) : Nat := (0 + k * 2 + 1) / 2
def H19 (x : BX) (k : Nat) : List Int := List.replicate 16 255 ++ [IntKind.i64.wrap ((19 + nI (x.m (jk k))).tdiv 256), (19 + nI (x.m (jk k))).tmod 256, x.k (ik k)]
def by_ (x : BX) (k : Nat) : List Int := List.take (x.m (jk k)) (List.drop 0 (x.D (x.Q (jk k))))
def Xo (x : BX) (k : Nat) : List Int := H19 x k ++ by_ x k
def Xz (x : BX) (k : Nat) : List Int := layI (H19 x k) (0 + 19) (by_ x k)
def bN (X : List Int) (m : Nat) : List Int := List.take (19 + m) (List.drop 0 X)
def bR (M : List Int) (n : Nat) (X : List Int) (m : Nat) : List Int := List.take n (List.drop 0 M) ++ List.take (19 + m) (List.drop 0 X)
def goX (x : BX) (S : St) (o : List (Option Bool)) : Option (Exit × Prop × List Nat × Value) := (goL x S o).map (fun r => (r.1, r.2.obl, r.2.defers, getL r.2.tmps 6))
def s0 (x : BX) (y : Y) : St := s00 x y 96
variable (x : BX) (y : Y) (M : List Int) (n q k : Nat) (v : VF)
def plo : Prop := ((((((True ∧ decide (nI k < nI y.n) = true) ∧ (0 ≤ nI k ∧ nI k < nI y.n)) ∧ ((0 + k * 2 + 0) % 2 = 0 ∧ ik k < y.n)) ∧ (0 ≤ nI k ∧ nI k < nI y.n)) ∧ ((0 + k * 2 + 1) % 2 = 1 ∧ jk k < y.n)) ∧ decide (x.k (ik k) < 1) = true)
theorem xNlo : goX x (sN x y k v) [some true, some true, some false, some true, some true, some false, none, some true, some true] = some (.ret, plo x y k, [], .bool true) := by kernel_rfl
theorem xRlo : goX x (sR x y M n q k v) [some true, some true, some false, some true, some true, some false, none, some true, some true] = some (.ret, plo x y k, [], .bool true) := by kernel_rfl
def phi : Prop := (((((((True ∧ decide (nI k < nI y.n) = true) ∧ (0 ≤ nI k ∧ nI k < nI y.n)) ∧ ((0 + k * 2 + 0) % 2 = 0 ∧ ik k < y.n)) ∧ (0 ≤ nI k ∧ nI k < nI y.n)) ∧ ((0 + k * 2 + 1) % 2 = 1 ∧ jk k < y.n)) ∧ decide (x.k (ik k) < 1) = false) ∧ decide (x.k (ik k) > 4) = true)
theorem xNhi : goX x (sN x y k v) [some true, some true, some false, some true, some true, some false, none, some true, some false, none, none, some true] = some (.ret, phi x y k, [], .bool true) := by kernel_rfl
theorem xRhi : goX x (sR x y M n q k v) [some true, some true, some false, some true, some true, some false, none, some true, some false, none, none, some true] = some (.ret, phi x y k, [], .bool true) := by kernel_rfl
def pbg : Prop := ((((((((True ∧ decide (nI k < nI y.n) = true) ∧ (0 ≤ nI k ∧ nI k < nI y.n)) ∧ ((0 + k * 2 + 0) % 2 = 0 ∧ ik k < y.n)) ∧ (0 ≤ nI k ∧ nI k < nI y.n)) ∧ ((0 + k * 2 + 1) % 2 = 1 ∧ jk k < y.n)) ∧ decide (x.k (ik k) < 1) = false) ∧ decide (x.k (ik k) > 4) = false) ∧ decide (nI (x.m (jk k)) > 493) = true)
theorem xNbg : goX x (sN x y k v) [some true, some true, some false, some true, some true, some false, none, some true, some false, none, none, some false, some true] = some (.ret, pbg x y k, [], .bool true) := by kernel_rfl
theorem xRbg : goX x (sR x y M n q k v) [some true, some true, some false, some true, some true, some false, none, some true, some false, none, none, some false, some true] = some (.ret, pbg x y k, [], .bool true) := by kernel_rfl
def plg : Prop := (((((((((((((((True ∧ decide (nI k < nI y.n) = true) ∧ (0 ≤ nI k ∧ nI k < nI y.n)) ∧ ((0 + k * 2 + 0) % 2 = 0 ∧ ik k < y.n)) ∧ (0 ≤ nI k ∧ nI k < nI y.n)) ∧ ((0 + k * 2 + 1) % 2 = 1 ∧ jk k < y.n)) ∧ decide (x.k (ik k) < 1) = false) ∧ decide (x.k (ik k) > 4) = false) ∧ decide (nI (x.m (jk k)) > 493) = false) ∧ IntKind.i64.wrap (19 + nI (x.m (jk k))) = 19 + nI (x.m (jk k))) ∧ IntKind.u8.wrap (IntKind.i64.wrap ((19 + nI (x.m (jk k))).tdiv 256)) = IntKind.i64.wrap ((19 + nI (x.m (jk k))).tdiv 256)) ∧ IntKind.u8.wrap ((19 + nI (x.m (jk k))).tmod 256) = (19 + nI (x.m (jk k))).tmod 256) ∧ IntKind.u8.wrap (x.k (ik k)) = x.k (ik k)) ∧ decide (19 + x.m (jk k) ≤ 19) = false) ∧ ((x.m (jk k) = 0 ∨ 0 + x.m (jk k) ≤ (x.D (x.Q (jk k))).length) ∧ 19 ≤ 19 ∧ (19 + x.m (jk k)) * 1 ≤ mostBytes ∧ 19 + x.m (jk k) ≤ mostBytes)) ∧ decide (nI (19 + x.m (jk k)) > 119) = true)
theorem xNlg : goX x (sN x y k v) ([some true, some true, some false, some true, some true, some false, none, some true, some false, none, none, some false, some false] ++ List.replicate 33 none ++ [some true, some true, some true, some true, some false, none, none, none, none, some true]) = some (.ret, plg x y k, [], .bool true) := by kernel_rfl
theorem xRlg : goX x (sR x y M n q k v) ([some true, some true, some false, some true, some true, some false, none, some true, some false, none, none, some false, some false] ++ List.replicate 33 none ++ [some true, some true, some true, some true, some false, none, none, none, none, some true]) = some (.ret, plg x y k, [], .bool true) := by kernel_rfl
def pokN : Prop := ((((((((((((((((((True ∧ decide (nI k < nI y.n) = true) ∧ (0 ≤ nI k ∧ nI k < nI y.n)) ∧ ((0 + k * 2 + 0) % 2 = 0 ∧ ik k < y.n)) ∧ (0 ≤ nI k ∧ nI k < nI y.n)) ∧ ((0 + k * 2 + 1) % 2 = 1 ∧ jk k < y.n)) ∧ decide (x.k (ik k) < 1) = false) ∧ decide (x.k (ik k) > 4) = false) ∧ decide (nI (x.m (jk k)) > 493) = false) ∧ IntKind.i64.wrap (19 + nI (x.m (jk k))) = 19 + nI (x.m (jk k))) ∧ IntKind.u8.wrap (IntKind.i64.wrap ((19 + nI (x.m (jk k))).tdiv 256)) = IntKind.i64.wrap ((19 + nI (x.m (jk k))).tdiv 256)) ∧ IntKind.u8.wrap ((19 + nI (x.m (jk k))).tmod 256) = (19 + nI (x.m (jk k))).tmod 256) ∧ IntKind.u8.wrap (x.k (ik k)) = x.k (ik k)) ∧ decide (19 + x.m (jk k) ≤ 19) = false) ∧ ((x.m (jk k) = 0 ∨ 0 + x.m (jk k) ≤ (x.D (x.Q (jk k))).length) ∧ 19 ≤ 19 ∧ (19 + x.m (jk k)) * 1 ≤ mostBytes ∧ 19 + x.m (jk k) ≤ mostBytes)) ∧ decide (nI (19 + x.m (jk k)) > 119) = false) ∧ decide (19 + x.m (jk k) = 0) = false) ∧ (0 = 0 ∧ 0 = 0 ∧ 0 + (19 + x.m (jk k)) ≤ (Xo x k).length ∧ (19 + x.m (jk k)) * 1 ≤ mostBytes ∧ 19 + x.m (jk k) ≤ mostBytes)) ∧ IntKind.i64.wrap (nI k + 1) = nI k + 1)
theorem kNok : (goL x (sN x y k v) ([some true, some true, some false, some true, some true, some false, none, some true, some false, none, none, some false, some false] ++ List.replicate 33 none ++ [some true, some true, some true, some true, some false, none, none, none, none, some false, some false, some true])).map (fun r => (r.1, r.2.obl, seenInT BL r.2 (sR x y (bN (Xo x k) (x.m (jk k))) (19 + x.m (jk k)) (19 + x.m (jk k)) (k + 1) (VL v)) [0, 1, 37])) = some (.normal, pokN x y k, seenAsT BL (sR x y (bN (Xo x k) (x.m (jk k))) (19 + x.m (jk k)) (19 + x.m (jk k)) (k + 1) (VL v)) [0, 1, 37] 38) := by kernel_rfl
theorem okNok : picOkT BL (s0 x y) (sR x y (bN (Xo x k) (x.m (jk k))) (19 + x.m (jk k)) (19 + x.m (jk k)) (k + 1) (VL v)) [0, 1, 37] = true := by kernel_rfl
def pokR : Prop := ((((((((((((((((((True ∧ decide (nI k < nI y.n) = true) ∧ (0 ≤ nI k ∧ nI k < nI y.n)) ∧ ((0 + k * 2 + 0) % 2 = 0 ∧ ik k < y.n)) ∧ (0 ≤ nI k ∧ nI k < nI y.n)) ∧ ((0 + k * 2 + 1) % 2 = 1 ∧ jk k < y.n)) ∧ decide (x.k (ik k) < 1) = false) ∧ decide (x.k (ik k) > 4) = false) ∧ decide (nI (x.m (jk k)) > 493) = false) ∧ IntKind.i64.wrap (19 + nI (x.m (jk k))) = 19 + nI (x.m (jk k))) ∧ IntKind.u8.wrap (IntKind.i64.wrap ((19 + nI (x.m (jk k))).tdiv 256)) = IntKind.i64.wrap ((19 + nI (x.m (jk k))).tdiv 256)) ∧ IntKind.u8.wrap ((19 + nI (x.m (jk k))).tmod 256) = (19 + nI (x.m (jk k))).tmod 256) ∧ IntKind.u8.wrap (x.k (ik k)) = x.k (ik k)) ∧ decide (19 + x.m (jk k) ≤ 19) = false) ∧ ((x.m (jk k) = 0 ∨ 0 + x.m (jk k) ≤ (x.D (x.Q (jk k))).length) ∧ 19 ≤ 19 ∧ (19 + x.m (jk k)) * 1 ≤ mostBytes ∧ 19 + x.m (jk k) ≤ mostBytes)) ∧ decide (nI (19 + x.m (jk k)) > 119) = false) ∧ decide (n + (19 + x.m (jk k)) ≤ q) = false) ∧ (0 + (19 + x.m (jk k)) ≤ (Xo x k).length ∧ 0 + n ≤ M.length ∧ (n + (19 + x.m (jk k))) * 1 ≤ mostBytes ∧ n + (19 + x.m (jk k)) ≤ mostBytes)) ∧ IntKind.i64.wrap (nI k + 1) = nI k + 1)
theorem kRok : (goL x (sR x y M n q k v) ([some true, some true, some false, some true, some true, some false, none, some true, some false, none, none, some false, some false] ++ List.replicate 33 none ++ [some true, some true, some true, some true, some false, none, none, none, none, some false, some false, some true])).map (fun r => (r.1, r.2.obl, seenInT BL r.2 (sR x y (bR M n (Xo x k) (x.m (jk k))) (n + (19 + x.m (jk k))) (n + (19 + x.m (jk k))) (k + 1) (VL v)) [0, 1, 38])) = some (.normal, pokR x y M n q k, seenAsT BL (sR x y (bR M n (Xo x k) (x.m (jk k))) (n + (19 + x.m (jk k))) (n + (19 + x.m (jk k))) (k + 1) (VL v)) [0, 1, 38] 39) := by kernel_rfl
theorem okRok : picOkT BL (s0 x y) (sR x y (bR M n (Xo x k) (x.m (jk k))) (n + (19 + x.m (jk k))) (n + (19 + x.m (jk k))) (k + 1) (VL v)) [0, 1, 38] = true := by kernel_rfl
def pozN : Prop := ((((((((((((((((((True ∧ decide (nI k < nI y.n) = true) ∧ (0 ≤ nI k ∧ nI k < nI y.n)) ∧ ((0 + k * 2 + 0) % 2 = 0 ∧ ik k < y.n)) ∧ (0 ≤ nI k ∧ nI k < nI y.n)) ∧ ((0 + k * 2 + 1) % 2 = 1 ∧ jk k < y.n)) ∧ decide (x.k (ik k) < 1) = false) ∧ decide (x.k (ik k) > 4) = false) ∧ decide (nI (x.m (jk k)) > 493) = false) ∧ IntKind.i64.wrap (19 + nI (x.m (jk k))) = 19 + nI (x.m (jk k))) ∧ IntKind.u8.wrap (IntKind.i64.wrap ((19 + nI (x.m (jk k))).tdiv 256)) = IntKind.i64.wrap ((19 + nI (x.m (jk k))).tdiv 256)) ∧ IntKind.u8.wrap ((19 + nI (x.m (jk k))).tmod 256) = (19 + nI (x.m (jk k))).tmod 256) ∧ IntKind.u8.wrap (x.k (ik k)) = x.k (ik k)) ∧ decide (19 + x.m (jk k) ≤ 19) = true) ∧ ((x.m (jk k) = 0 ∨ 0 + x.m (jk k) ≤ (x.D (x.Q (jk k))).length) ∧ 0 + 19 + x.m (jk k) ≤ 19)) ∧ decide (nI (19 + x.m (jk k)) > 119) = false) ∧ decide (19 + x.m (jk k) = 0) = false) ∧ (0 = 0 ∧ 0 = 0 ∧ 0 + (19 + x.m (jk k)) ≤ (Xz x k).length ∧ (19 + x.m (jk k)) * 1 ≤ mostBytes ∧ 19 + x.m (jk k) ≤ mostBytes)) ∧ IntKind.i64.wrap (nI k + 1) = nI k + 1)
theorem kNoz : (goL x (sN x y k v) ([some true, some true, some false, some true, some true, some false, none, some true, some false, none, none, some false, some false] ++ List.replicate 33 none ++ [some true, some true, some true, some true, some true, none, none, none, none, some false, some false, some true])).map (fun r => (r.1, r.2.obl, seenInT BL r.2 (sR x y (bN (Xz x k) (x.m (jk k))) (19 + x.m (jk k)) (19 + x.m (jk k)) (k + 1) (VL v)) [0, 1, 36])) = some (.normal, pozN x y k, seenAsT BL (sR x y (bN (Xz x k) (x.m (jk k))) (19 + x.m (jk k)) (19 + x.m (jk k)) (k + 1) (VL v)) [0, 1, 36] 37) := by kernel_rfl
theorem okNoz : picOkT BL (s0 x y) (sR x y (bN (Xz x k) (x.m (jk k))) (19 + x.m (jk k)) (19 + x.m (jk k)) (k + 1) (VL v)) [0, 1, 36] = true := by kernel_rfl
def pozR : Prop := ((((((((((((((((((True ∧ decide (nI k < nI y.n) = true) ∧ (0 ≤ nI k ∧ nI k < nI y.n)) ∧ ((0 + k * 2 + 0) % 2 = 0 ∧ ik k < y.n)) ∧ (0 ≤ nI k ∧ nI k < nI y.n)) ∧ ((0 + k * 2 + 1) % 2 = 1 ∧ jk k < y.n)) ∧ decide (x.k (ik k) < 1) = false) ∧ decide (x.k (ik k) > 4) = false) ∧ decide (nI (x.m (jk k)) > 493) = false) ∧ IntKind.i64.wrap (19 + nI (x.m (jk k))) = 19 + nI (x.m (jk k))) ∧ IntKind.u8.wrap (IntKind.i64.wrap ((19 + nI (x.m (jk k))).tdiv 256)) = IntKind.i64.wrap ((19 + nI (x.m (jk k))).tdiv 256)) ∧ IntKind.u8.wrap ((19 + nI (x.m (jk k))).tmod 256) = (19 + nI (x.m (jk k))).tmod 256) ∧ IntKind.u8.wrap (x.k (ik k)) = x.k (ik k)) ∧ decide (19 + x.m (jk k) ≤ 19) = true) ∧ ((x.m (jk k) = 0 ∨ 0 + x.m (jk k) ≤ (x.D (x.Q (jk k))).length) ∧ 0 + 19 + x.m (jk k) ≤ 19)) ∧ decide (nI (19 + x.m (jk k)) > 119) = false) ∧ decide (n + (19 + x.m (jk k)) ≤ q) = false) ∧ (0 + (19 + x.m (jk k)) ≤ (Xz x k).length ∧ 0 + n ≤ M.length ∧ (n + (19 + x.m (jk k))) * 1 ≤ mostBytes ∧ n + (19 + x.m (jk k)) ≤ mostBytes)) ∧ IntKind.i64.wrap (nI k + 1) = nI k + 1)
theorem kRoz : (goL x (sR x y M n q k v) ([some true, some true, some false, some true, some true, some false, none, some true, some false, none, none, some false, some false] ++ List.replicate 33 none ++ [some true, some true, some true, some true, some true, none, none, none, none, some false, some false, some true])).map (fun r => (r.1, r.2.obl, seenInT BL r.2 (sR x y (bR M n (Xz x k) (x.m (jk k))) (n + (19 + x.m (jk k))) (n + (19 + x.m (jk k))) (k + 1) (VL v)) [0, 1, 37])) = some (.normal, pozR x y M n q k, seenAsT BL (sR x y (bR M n (Xz x k) (x.m (jk k))) (n + (19 + x.m (jk k))) (n + (19 + x.m (jk k))) (k + 1) (VL v)) [0, 1, 37] 38) := by kernel_rfl
theorem okRoz : picOkT BL (s0 x y) (sR x y (bR M n (Xz x k) (x.m (jk k))) (n + (19 + x.m (jk k))) (n + (19 + x.m (jk k))) (k + 1) (VL v)) [0, 1, 37] = true := by kernel_rfl
theorem xN : (goL x (sN x y k v) [some false]).map (fun r => (r.1, r.2.obl, seenInT BE r.2 (sN x y k (VE v)) [0, 1])) = some (.exit 0, True ∧ decide (nI k < nI y.n) = false, seenAsT BE (sN x y k (VE v)) [0, 1] 2) := by kernel_rfl
theorem xR : (goL x (sR x y M n q k v) [some false]).map (fun r => (r.1, r.2.obl, seenInT BE r.2 (sR x y M n q k (VE v)) [0, 1, 2])) = some (.exit 0, True ∧ decide (nI k < nI y.n) = false, seenAsT BE (sR x y M n q k (VE v)) [0, 1, 2] 3) := by kernel_rfl
theorem okN : picOkT BE (s0 x y) (sN x y k (VE v)) [0, 1] = true := by kernel_rfl
theorem okR : picOkT BE (s0 x y) (sR x y M n q k (VE v)) [0, 1, 2] = true := by kernel_rfl
end
end ff
end Go.Proofs.Ytiangelmpnnijaa
namespace Go.Proofs.Ytiangelmpnnijaa
open Go.ChangeShapes Go.WideShapes Go.ChangeAt Go.RowKit Go.Cln
namespace ff
open fr fc fe
set_option linter.unusedVariables false
noncomputable section
def tmM (v : VF) : List Value := (vs v 0 6 (.bool false :: vs v 7 4 (P0 2 0 :: P0 3 0 :: v 13 :: .int .i64 0 :: vs v 15 84 [])))
theorem tmM_dead {v : VF} {B : Nat → Bool} (h : ∀ i, DeadV (v i)) (hB : ∀ i, (Nat.beq i 6 || (Nat.ble 11 i && Nat.ble i 12) || Nat.beq i 14) = true → B i = true) : deadT B 0 (tmM v) :=
  deadT_vs h 6 (⟨fun e => absurd e (by rw [hB 6 rfl]; decide), deadT_vs h 4 (⟨fun e => absurd e (by rw [hB 11 rfl]; decide), ⟨fun e => absurd e (by rw [hB 12 rfl]; decide), ⟨fun _ => h 13, ⟨fun e => absurd e (by rw [hB 14 rfl]; decide), deadT_vs h 84 (trivial)⟩⟩⟩⟩)⟩)
def tmQ (v : VF) (i : Int) : List Value := (vs v 0 6 (.bool false :: vs v 7 4 (P0 2 0 :: P0 3 0 :: v 13 :: .int .i64 0 :: .int .i64 i :: vs v 16 83 [])))
theorem tmQ_dead {v : VF} {i : Int} {B : Nat → Bool} (h : ∀ i, DeadV (v i)) (hB : ∀ i, (Nat.beq i 6 || (Nat.ble 11 i && Nat.ble i 12) || (Nat.ble 14 i && Nat.ble i 15)) = true → B i = true) : deadT B 0 (tmQ v i) :=
  deadT_vs h 6 (⟨fun e => absurd e (by rw [hB 6 rfl]; decide), deadT_vs h 4 (⟨fun e => absurd e (by rw [hB 11 rfl]; decide), ⟨fun e => absurd e (by rw [hB 12 rfl]; decide), ⟨fun _ => h 13, ⟨fun e => absurd e (by rw [hB 14 rfl]; decide), ⟨fun e => absurd e (by rw [hB 15 rfl]; decide), deadT_vs h 83 (trivial)⟩⟩⟩⟩⟩)⟩)
def WMi (i : Nat) : Bool := (Nat.ble 0 i && Nat.ble i 2) || (Nat.ble 7 i && Nat.ble i 8) || Nat.beq i 13 || (Nat.ble 53 i && Nat.ble i 65) || Nat.beq i 68 || (Nat.ble 71 i && Nat.ble i 74)
def VMi (v : VF) : VF := fun i => match Nat.beq i 66 with
  | true => .tuple #[.agg #[junk, junk], junk]
  | false => match Nat.beq i 67 with
  | true => .agg #[junk, junk]
  | false => match Nat.beq i 69 with
  | true => .tuple #[.agg #[junk, junk], junk]
  | false => match Nat.beq i 70 with
  | true => .agg #[junk, junk]
  | false => match WMi i with
  | true => junk
  | false => v i
def BMi (i : Nat) : Bool := (Nat.beq i 6 || (Nat.ble 11 i && Nat.ble i 12) || Nat.beq i 14) || WMi i || Nat.beq i 66 || Nat.beq i 67 || Nat.beq i 69 || Nat.beq i 70
theorem VMi_dead {v : VF} (h : ∀ i, DeadV (v i)) (i : Nat) : DeadV (VMi v i) := by
  unfold VMi
  split
  · exact ⟨rfl, fun _ => rfl, fun _ => rfl⟩
  split
  · exact ⟨rfl, fun _ => rfl, fun _ => rfl⟩
  split
  · exact ⟨rfl, fun _ => rfl, fun _ => rfl⟩
  split
  · exact ⟨rfl, fun _ => rfl, fun _ => rfl⟩
  split
  · exact DeadV.junk
  · exact h i
theorem lvMi (i : Nat) (h : (Nat.beq i 6 || (Nat.ble 11 i && Nat.ble i 12) || Nat.beq i 14) = true) : BMi i = true := by
  unfold BMi
  simp only [Bool.or_eq_true] at h ⊢
  refine .inl ?_
  refine .inl ?_
  refine .inl ?_
  refine .inl ?_
  exact .inl h
def WMl (i : Nat) : Bool := (Nat.ble 0 i && Nat.ble i 2) || (Nat.ble 7 i && Nat.ble i 8) || Nat.beq i 13 || (Nat.ble 53 i && Nat.ble i 55) || Nat.beq i 60 || Nat.beq i 65 || Nat.beq i 68 || (Nat.ble 71 i && Nat.ble i 74)
def VMl (v : VF) : VF := fun i => match Nat.beq i 56 with
  | true => undef
  | false => match Nat.beq i 57 with
  | true => undef
  | false => match Nat.beq i 58 with
  | true => undef
  | false => match Nat.beq i 59 with
  | true => undef
  | false => match Nat.beq i 66 with
  | true => .tuple #[.agg #[junk, junk], junk]
  | false => match Nat.beq i 67 with
  | true => .agg #[junk, junk]
  | false => match Nat.beq i 69 with
  | true => .tuple #[.agg #[junk, junk], junk]
  | false => match Nat.beq i 70 with
  | true => .agg #[junk, junk]
  | false => match WMl i with
  | true => junk
  | false => v i
def BMl (i : Nat) : Bool := (Nat.beq i 6 || (Nat.ble 11 i && Nat.ble i 12) || Nat.beq i 14) || WMl i || Nat.beq i 56 || Nat.beq i 57 || Nat.beq i 58 || Nat.beq i 59 || Nat.beq i 66 || Nat.beq i 67 || Nat.beq i 69 || Nat.beq i 70
theorem VMl_dead {v : VF} (h : ∀ i, DeadV (v i)) (i : Nat) : DeadV (VMl v i) := by
  unfold VMl
  split
  · exact ⟨rfl, fun _ => rfl, fun _ => rfl⟩
  split
  · exact ⟨rfl, fun _ => rfl, fun _ => rfl⟩
  split
  · exact ⟨rfl, fun _ => rfl, fun _ => rfl⟩
  split
  · exact ⟨rfl, fun _ => rfl, fun _ => rfl⟩
  split
  · exact ⟨rfl, fun _ => rfl, fun _ => rfl⟩
  split
  · exact ⟨rfl, fun _ => rfl, fun _ => rfl⟩
  split
  · exact ⟨rfl, fun _ => rfl, fun _ => rfl⟩
  split
  · exact ⟨rfl, fun _ => rfl, fun _ => rfl⟩
  split
  · exact DeadV.junk
  · exact h i
theorem lvMl (i : Nat) (h : (Nat.beq i 6 || (Nat.ble 11 i && Nat.ble i 12) || Nat.beq i 14) = true) : BMl i = true := by
  unfold BMl
  simp only [Bool.or_eq_true] at h ⊢
  refine .inl ?_
  refine .inl ?_
  refine .inl ?_
  refine .inl ?_
  refine .inl ?_
  refine .inl ?_
  refine .inl ?_
  refine .inl ?_
  exact .inl h
def WMg (i : Nat) : Bool := (Nat.ble 0 i && Nat.ble i 2) || (Nat.ble 7 i && Nat.ble i 8) || Nat.beq i 13 || (Nat.ble 53 i && Nat.ble i 60) || Nat.beq i 65 || Nat.beq i 68 || (Nat.ble 71 i && Nat.ble i 74)
def VMg (v : VF) : VF := fun i => match Nat.beq i 66 with
  | true => .tuple #[.agg #[junk, junk], junk]
  | false => match Nat.beq i 67 with
  | true => .agg #[junk, junk]
  | false => match Nat.beq i 69 with
  | true => .tuple #[.agg #[junk, junk], junk]
  | false => match Nat.beq i 70 with
  | true => .agg #[junk, junk]
  | false => match WMg i with
  | true => junk
  | false => v i
def BMg (i : Nat) : Bool := (Nat.beq i 6 || (Nat.ble 11 i && Nat.ble i 12) || Nat.beq i 14) || WMg i || Nat.beq i 66 || Nat.beq i 67 || Nat.beq i 69 || Nat.beq i 70
theorem VMg_dead {v : VF} (h : ∀ i, DeadV (v i)) (i : Nat) : DeadV (VMg v i) := by
  unfold VMg
  split
  · exact ⟨rfl, fun _ => rfl, fun _ => rfl⟩
  split
  · exact ⟨rfl, fun _ => rfl, fun _ => rfl⟩
  split
  · exact ⟨rfl, fun _ => rfl, fun _ => rfl⟩
  split
  · exact ⟨rfl, fun _ => rfl, fun _ => rfl⟩
  split
  · exact DeadV.junk
  · exact h i
theorem lvMg (i : Nat) (h : (Nat.beq i 6 || (Nat.ble 11 i && Nat.ble i 12) || Nat.beq i 14) = true) : BMg i = true := by
  unfold BMg
  simp only [Bool.or_eq_true] at h ⊢
  refine .inl ?_
  refine .inl ?_
  refine .inl ?_
  refine .inl ?_
  exact .inl h
def WY (i : Nat) : Bool := false
def BY (i : Nat) : Bool := (Nat.beq i 6 || (Nat.ble 11 i && Nat.ble i 12) || Nat.beq i 14) || WY i
noncomputable def c3 : Code := dropC 3 bodyC
noncomputable def cX : Code := fstC c3
noncomputable def c4 : Code := dropC 1 c3
noncomputable def c5 : Code := dropC 4 c4
noncomputable def cY : Code := fstC c5
noncomputable def c6 : Code := dropC 1 c5
def hQ (x : BX) (y : Y) (L Lw : List Int) (o n c p m d : Nat) (e : Int) : Nat → Option Ob := fun i => match i with
  | 0 => some (.fam x.F)
  | 1 => some (.cells (.rows y.n 2 x.row) 0)
  | 2 => some (oF e (rw1 4 o n c))
  | 3 => some (oW (rw1 5 p m d) e)
  | 4 => some (.cells (.ints .u8 L) 5)
  | 5 => some (.cells (.ints .u8 Lw) 5)
  | _ => none
def sM (x : BX) (y : Y) (L Lw : List Int) (o n c p m d : Nat) (e : Int) (v : VF) : St := ⟨tmM v, [], Tr.rebuild (hQ x y L Lw o n c p m d e) 6, 6, 2, [], fun _ => false, True, []⟩
def sQ (x : BX) (y : Y) (L Lw : List Int) (o n c p m d : Nat) (e i : Int) (v : VF) : St := ⟨tmQ v i, [], Tr.rebuild (hQ x y L Lw o n c p m d e) 6, 6, 2, [], fun _ => false, True, []⟩
def zi (n : Nat) : Int := 0 + nI n - (nI 0 - nI 0)
def zz (n : Nat) : Nat := (IntKind.i64.wrap (zi n)).toNat
def lay0 (n : Nat) (M : List Int) : List Int := layI (List.replicate (zz n) 0) (0 + 0) (List.take n (List.drop 0 M))
def L1 (n : Nat) (M : List Int) : List Int := List.take (0 + n) (List.drop 0 (lay0 n M))
def L2 (n : Nat) (M : List Int) : List Int := List.take n (List.drop 0 M)
def goM (EC : TE) (ZN : List Int → Nat) (S : St) (k : Nat) (o : List (Option Bool)) : Option (St × Code) := runRow (mk Try.prog (KF EC ZN) 300) 4 none k c4 { S with obl := True, orc := o }
def WQ0 (i : Nat) : Bool := false
def BQ0 (i : Nat) : Bool := (Nat.beq i 6 || (Nat.ble 11 i && Nat.ble i 12) || (Nat.ble 14 i && Nat.ble i 15)) || WQ0 i
theorem lvQ0 (i : Nat) (h : (Nat.beq i 6 || (Nat.ble 11 i && Nat.ble i 12) || (Nat.ble 14 i && Nat.ble i 15)) = true) : BQ0 i = true := by
  unfold BQ0
  simp only [Bool.or_eq_true] at h ⊢
  exact .inl h
variable (EC : TE) (ZN : List Int → Nat) (x : BX) (y : Y) (M L Lw : List Int) (n k o c p m d : Nat) (e i : Int) (v : VF)
def pMi : Prop := ((((((((((((((((((((True ∧ decide (y.a ≥ 0) = true) ∧ decide (y.a < nI n) = true) ∧ (0 ≤ y.a ∧ y.a < nI n)) ∧ 0 + y.a.toNat * 1 + 1 ≤ M.length) ∧ decide (0 + n ≤ 0) = false) ∧ (0 + n ≤ (M.set (0 + y.a.toNat * 1) y.w).length ∧ 0 ≤ 0 ∧ (0 + n) * 1 ≤ mostBytes ∧ 0 + n ≤ mostBytes)) ∧ ((0 : Int) ≤ 0 ∧ (0 : Int) < nI 1)) ∧ IntKind.i64.wrap (0 + nI n) = 0 + nI n) ∧ IntKind.i64.wrap (0 + 1) = 0 + 1) ∧ IntKind.i64.wrap (nI 0 - nI 0) = nI 0 - nI 0) ∧ IntKind.i64.wrap (zi n) = zi n) ∧ decide (zi n > 0) = true) ∧ (1 ≤ IntKind.i64.wrap (zi n) ∧ zz n * 1 ≤ mostBytes ∧ zz n ≤ mostBytes)) ∧ decide ((0 : Int) < nI 1) = true) ∧ ((0 : Int) ≤ 0 ∧ (0 : Int) < nI 1)) ∧ decide (0 + n ≤ zz n - 0) = true) ∧ (0 + n ≤ (M.set (0 + y.a.toNat * 1) y.w).length ∧ 0 + n ≤ (List.replicate (zz n) (0 : Int)).length)) ∧ IntKind.i64.wrap (0 + 1) = 0 + 1) ∧ decide (0 + n = 0) = false) ∧ (0 = 0 ∧ 0 = 0 ∧ 0 + (0 + n) ≤ (lay0 n (M.set (0 + y.a.toNat * 1) y.w)).length ∧ (0 + n) * 1 ≤ mostBytes ∧ 0 + n ≤ mostBytes))
theorem rMi : (goM EC ZN (sR x y M n n k v) 4 ([some true, none, none, none, none, some true, some true, some true, none, some false] ++ List.replicate 9 none ++ [some true, some true, none, some true, none, none, some true, some true, some true, some true, none, some true, some true, some true, some true, none, some false])).map (fun r => (r.2, r.1.obl, seenInT BMi r.1 (sM x y (L1 n (M.set (0 + y.a.toNat * 1) y.w)) (L2 n (M.set (0 + y.a.toNat * 1) y.w)) 0 (0 + n) (0 + n) 0 (0 + n) (0 + n) 0 (VMi v)) [0, 1, 3, 8, 11, 7])) = some (c5, pMi y M n, seenAsT BMi (sM x y (L1 n (M.set (0 + y.a.toNat * 1) y.w)) (L2 n (M.set (0 + y.a.toNat * 1) y.w)) 0 (0 + n) (0 + n) 0 (0 + n) (0 + n) 0 (VMi v)) [0, 1, 3, 8, 11, 7] 12) := by kernel_rfl
theorem okMi : picOkT BMi (s0 x y) (sM x y (L1 n (M.set (0 + y.a.toNat * 1) y.w)) (L2 n (M.set (0 + y.a.toNat * 1) y.w)) 0 (0 + n) (0 + n) 0 (0 + n) (0 + n) 0 (VMi v)) [0, 1, 3, 8, 11, 7] = true := by kernel_rfl
def pMl : Prop := (((((((((((((((((True ∧ decide (y.a ≥ 0) = false) ∧ decide (0 + n ≤ 0) = false) ∧ (0 + n ≤ M.length ∧ 0 ≤ 0 ∧ (0 + n) * 1 ≤ mostBytes ∧ 0 + n ≤ mostBytes)) ∧ ((0 : Int) ≤ 0 ∧ (0 : Int) < nI 1)) ∧ IntKind.i64.wrap (0 + nI n) = 0 + nI n) ∧ IntKind.i64.wrap (0 + 1) = 0 + 1) ∧ IntKind.i64.wrap (nI 0 - nI 0) = nI 0 - nI 0) ∧ IntKind.i64.wrap (zi n) = zi n) ∧ decide (zi n > 0) = true) ∧ (1 ≤ IntKind.i64.wrap (zi n) ∧ zz n * 1 ≤ mostBytes ∧ zz n ≤ mostBytes)) ∧ decide ((0 : Int) < nI 1) = true) ∧ ((0 : Int) ≤ 0 ∧ (0 : Int) < nI 1)) ∧ decide (0 + n ≤ zz n - 0) = true) ∧ (0 + n ≤ M.length ∧ 0 + n ≤ (List.replicate (zz n) (0 : Int)).length)) ∧ IntKind.i64.wrap (0 + 1) = 0 + 1) ∧ decide (0 + n = 0) = false) ∧ (0 = 0 ∧ 0 = 0 ∧ 0 + (0 + n) ≤ (lay0 n M).length ∧ (0 + n) * 1 ≤ mostBytes ∧ 0 + n ≤ mostBytes))
theorem rMl : (goM EC ZN (sR x y M n n k v) 4 ([some false] ++ List.replicate 6 none ++ [some false] ++ List.replicate 9 none ++ [some true, some true, none, some true, none, none, some true, some true, some true, some true, none, some true, some true, some true, some true, none, some false])).map (fun r => (r.2, r.1.obl, seenInT BMl r.1 (sM x y (L1 n M) (L2 n M) 0 (0 + n) (0 + n) 0 (0 + n) (0 + n) 0 (VMl v)) [0, 1, 3, 8, 11, 7])) = some (c5, pMl y M n, seenAsT BMl (sM x y (L1 n M) (L2 n M) 0 (0 + n) (0 + n) 0 (0 + n) (0 + n) 0 (VMl v)) [0, 1, 3, 8, 11, 7] 12) := by kernel_rfl
theorem okMl : picOkT BMl (s0 x y) (sM x y (L1 n M) (L2 n M) 0 (0 + n) (0 + n) 0 (0 + n) (0 + n) 0 (VMl v)) [0, 1, 3, 8, 11, 7] = true := by kernel_rfl
def pMg : Prop := ((((((((((((((((((True ∧ decide (y.a ≥ 0) = true) ∧ decide (y.a < nI n) = false) ∧ decide (0 + n ≤ 0) = false) ∧ (0 + n ≤ M.length ∧ 0 ≤ 0 ∧ (0 + n) * 1 ≤ mostBytes ∧ 0 + n ≤ mostBytes)) ∧ ((0 : Int) ≤ 0 ∧ (0 : Int) < nI 1)) ∧ IntKind.i64.wrap (0 + nI n) = 0 + nI n) ∧ IntKind.i64.wrap (0 + 1) = 0 + 1) ∧ IntKind.i64.wrap (nI 0 - nI 0) = nI 0 - nI 0) ∧ IntKind.i64.wrap (zi n) = zi n) ∧ decide (zi n > 0) = true) ∧ (1 ≤ IntKind.i64.wrap (zi n) ∧ zz n * 1 ≤ mostBytes ∧ zz n ≤ mostBytes)) ∧ decide ((0 : Int) < nI 1) = true) ∧ ((0 : Int) ≤ 0 ∧ (0 : Int) < nI 1)) ∧ decide (0 + n ≤ zz n - 0) = true) ∧ (0 + n ≤ M.length ∧ 0 + n ≤ (List.replicate (zz n) (0 : Int)).length)) ∧ IntKind.i64.wrap (0 + 1) = 0 + 1) ∧ decide (0 + n = 0) = false) ∧ (0 = 0 ∧ 0 = 0 ∧ 0 + (0 + n) ≤ (lay0 n M).length ∧ (0 + n) * 1 ≤ mostBytes ∧ 0 + n ≤ mostBytes))
theorem rMg : (goM EC ZN (sR x y M n n k v) 4 ([some true, none, none, none, none, some false, none, some false] ++ List.replicate 9 none ++ [some true, some true, none, some true, none, none, some true, some true, some true, some true, none, some true, some true, some true, some true, none, some false])).map (fun r => (r.2, r.1.obl, seenInT BMg r.1 (sM x y (L1 n M) (L2 n M) 0 (0 + n) (0 + n) 0 (0 + n) (0 + n) 0 (VMg v)) [0, 1, 3, 8, 11, 7])) = some (c5, pMg y M n, seenAsT BMg (sM x y (L1 n M) (L2 n M) 0 (0 + n) (0 + n) 0 (0 + n) (0 + n) 0 (VMg v)) [0, 1, 3, 8, 11, 7] 12) := by kernel_rfl
theorem okMg : picOkT BMg (s0 x y) (sM x y (L1 n M) (L2 n M) 0 (0 + n) (0 + n) 0 (0 + n) (0 + n) 0 (VMg v)) [0, 1, 3, 8, 11, 7] = true := by kernel_rfl
theorem rY : (runRow (mk Try.prog (KF EC ZN) 300) 4 none 1 cY { sM x y L Lw o n c p m d e v with obl := True, orc := [] }).map (fun r => (r.2, r.1.obl, seenInT BQ0 r.1 (sQ x y L Lw o n c p m d e 0 v) [0, 1, 2, 3, 4, 5])) = some (.block 2 (.loop lb2), True, seenAsT BQ0 (sQ x y L Lw o n c p m d e 0 v) [0, 1, 2, 3, 4, 5] 6) := by kernel_rfl
theorem okY : picOkT BQ0 (s0 x y) (sQ x y L Lw o n c p m d e 0 v) [0, 1, 2, 3, 4, 5] = true := by kernel_rfl
theorem c3_eq : c3 = .seq cX c4 := by kernel_rfl
theorem c5_eq : c5 = .seq cY c6 := by kernel_rfl
end
end ff
end Go.Proofs.Ytiangelmpnnijaa
namespace Go.Proofs.Ytiangelmpnnijaa
open Go.ChangeShapes Go.WideShapes Go.ChangeAt Go.RowKit Go.Cln
namespace ff
open fr fc fe
set_option linter.unusedVariables false
noncomputable section
def WR (i : Nat) : Bool := (Nat.ble 16 i && Nat.ble i 17) || (Nat.ble 75 i && Nat.ble i 78) || Nat.beq i 80 || Nat.beq i 84 || (Nat.ble 86 i && Nat.ble i 87)
def VR (v : VF) : VF := fun i => match Nat.beq i 79 with
  | true => .tuple #[.agg #[junk, junk], junk]
  | false => match Nat.beq i 81 with
  | true => .agg #[junk, junk]
  | false => match Nat.beq i 82 with
  | true => .tuple #[.agg #[junk, junk], junk]
  | false => match Nat.beq i 83 with
  | true => .agg #[junk, junk]
  | false => match Nat.beq i 85 with
  | true => .agg #[junk, junk]
  | false => match WR i with
  | true => junk
  | false => v i
def BR (i : Nat) : Bool := (Nat.beq i 6 || (Nat.ble 11 i && Nat.ble i 12) || (Nat.ble 14 i && Nat.ble i 15)) || WR i || Nat.beq i 79 || Nat.beq i 81 || Nat.beq i 82 || Nat.beq i 83 || Nat.beq i 85
theorem VR_dead {v : VF} (h : ∀ i, DeadV (v i)) (i : Nat) : DeadV (VR v i) := by
  unfold VR
  split
  · exact ⟨rfl, fun _ => rfl, fun _ => rfl⟩
  split
  · exact ⟨rfl, fun _ => rfl, fun _ => rfl⟩
  split
  · exact ⟨rfl, fun _ => rfl, fun _ => rfl⟩
  split
  · exact ⟨rfl, fun _ => rfl, fun _ => rfl⟩
  split
  · exact ⟨rfl, fun _ => rfl, fun _ => rfl⟩
  split
  · exact DeadV.junk
  · exact h i
theorem lvR (i : Nat) (h : (Nat.beq i 6 || (Nat.ble 11 i && Nat.ble i 12) || (Nat.ble 14 i && Nat.ble i 15)) = true) : BR i = true := by
  unfold BR
  simp only [Bool.or_eq_true] at h ⊢
  refine .inl ?_
  refine .inl ?_
  refine .inl ?_
  refine .inl ?_
  refine .inl ?_
  exact .inl h
def WZ (i : Nat) : Bool := (Nat.ble 75 i && Nat.ble i 76)
def VZ (v : VF) : VF := fun i => match WZ i with
  | true => junk
  | false => v i
def BZ (i : Nat) : Bool := (Nat.beq i 6 || (Nat.ble 11 i && Nat.ble i 12) || (Nat.ble 14 i && Nat.ble i 15)) || WZ i
theorem VZ_dead {v : VF} (h : ∀ i, DeadV (v i)) (i : Nat) : DeadV (VZ v i) := by
  unfold VZ
  split
  · exact DeadV.junk
  · exact h i
theorem lvZ (i : Nat) (h : (Nat.beq i 6 || (Nat.ble 11 i && Nat.ble i 12) || (Nat.ble 14 i && Nat.ble i 15)) = true) : BZ i = true := by
  unfold BZ
  simp only [Bool.or_eq_true] at h ⊢
  exact .inl h
def cw (L : List Int) (o n : Nat) : List Int := List.take n (List.drop o L)
def goQ (EC : TE) (ZN : List Int → Nat) (S : St) (o : List (Option Bool)) : Option (Exit × St) := (mk Try.prog (KF EC ZN) 300).code 4 none lb2 { S with obl := True, orc := o }
variable (EC : TE) (ZN : List Int → Nat) (x : BX) (y : Y) (L Lw : List Int) (o n c p m d : Nat) (e i : Int) (v : VF)
def pQ (i : Int) (A : Prop) : Prop := ((True ∧ decide (i < 40) = true) ∧ A) ∧ IntKind.i64.wrap (i + 1) = i + 1
theorem kA : (goQ EC ZN (sQ x y L Lw o n c p m d e i v) [some true, some true, none, some true]).map (fun r => (r.1, r.2.obl, seenInT BR r.2 (sQ x y L Lw (addO o 0) n c (addO p 0) m d e (i + 1) (VR v)) [0, 1, 2, 3, 4, 5])) = some (.normal, pQ i (e ≠ 0 ∧ e = e), seenAsT BR (sQ x y L Lw (addO o 0) n c (addO p 0) m d e (i + 1) (VR v)) [0, 1, 2, 3, 4, 5] 14) := by kernel_rfl
theorem kB : (goQ EC ZN (sQ x y L Lw o n c p m d e i v) [some true, some false, some true, none, some true]).map (fun r => (r.1, r.2.obl, seenInT BR r.2 (sQ x y L Lw (addO o 0) n c (addO p 0) m d (EC (cw L o n) n) (i + 1) (VR v)) [0, 1, 2, 3, 4, 5])) = some (.normal, pQ i (EC = eF ∧ Both (cw Lw p m) (cw L o n) m d n c e e ∧ ¬ okF (cw L o n) n ∧ eF (cw L o n) n ≠ 0), seenAsT BR (sQ x y L Lw (addO o 0) n c (addO p 0) m d (EC (cw L o n) n) (i + 1) (VR v)) [0, 1, 2, 3, 4, 5] 20) := by kernel_rfl
theorem kC : (goQ EC ZN (sQ x y L Lw o n c p m d e i v) [some true, some false, some false, some false, none, some true]).map (fun r => (r.1, r.2.obl, seenInT BR r.2 (sQ x y L Lw (addO o 0) n c (addO p 0) m d e (i + 1) (VR v)) [0, 1, 2, 3, 4, 5])) = some (.normal, pQ i (Both (cw Lw p m) (cw L o n) m d n c e e ∧ ¬ okF (cw L o n) n ∧ eF (cw L o n) n = 0), seenAsT BR (sQ x y L Lw (addO o 0) n c (addO p 0) m d e (i + 1) (VR v)) [0, 1, 2, 3, 4, 5] 20) := by kernel_rfl
theorem kD : (goQ EC ZN (sQ x y L Lw o n c p m d e i v) [some true, some false, some false, some true, none, some true]).map (fun r => (r.1, r.2.obl, seenInT BR r.2 (sQ x y L Lw (addO o (ZN (cw L o n))) (n - ZN (cw L o n)) (c - ZN (cw L o n)) (addO p (ZN (cw L o n))) (m - ZN (cw L o n)) (d - ZN (cw L o n)) e (i + 1) (VR v)) [0, 1, 2, 3, 4, 5])) = some (.normal, pQ i (ZN = zf ∧ Both (cw Lw p m) (cw L o n) m d n c e e ∧ okF (cw L o n) n), seenAsT BR (sQ x y L Lw (addO o (ZN (cw L o n))) (n - ZN (cw L o n)) (c - ZN (cw L o n)) (addO p (ZN (cw L o n))) (m - ZN (cw L o n)) (d - ZN (cw L o n)) e (i + 1) (VR v)) [0, 1, 2, 3, 4, 5] 22) := by kernel_rfl
theorem kZ : (goQ EC ZN (sQ x y L Lw o n c p m d e i v) [some false]).map (fun r => (r.1, r.2.obl, seenInT BZ r.2 (sQ x y L Lw o n c p m d e i (VZ v)) [0, 1, 2, 3, 4, 5])) = some (.exit 2, True ∧ decide (i < 40) = false, seenAsT BZ (sQ x y L Lw o n c p m d e i (VZ v)) [0, 1, 2, 3, 4, 5] 6) := by kernel_rfl
theorem okR2 : picOkT BR (s0 x y) (sQ x y L Lw o n c p m d e i (VR v)) [0, 1, 2, 3, 4, 5] = true := by kernel_rfl
theorem okZ2 : picOkT BZ (s0 x y) (sQ x y L Lw o n c p m d e i (VZ v)) [0, 1, 2, 3, 4, 5] = true := by kernel_rfl
end
end ff
end Go.Proofs.Ytiangelmpnnijaa
namespace Go.Proofs.Ytiangelmpnnijaa
open Go.ChangeShapes Go.WideShapes Go.ChangeAt Go.RowKit Go.Cln
namespace ff
open fr fc fe
set_option linter.unusedVariables false
noncomputable section
theorem StepG.ran {P : Program} (G : PG P) {K : Given} (hK : GivenOk P K) {n : Nat} {f : FuncId} {rd : Option Nat} {s0 s : St} {c : Code} {e : Exit} {p : Prop} {o : List (Option Bool)} {d : List Nat} {t : Nat} {b : Bool}
    (hr : ((mk P K n).code f rd c { s with obl := True, orc := o }).map (fun r => (r.1, r.2.obl, r.2.defers, getL r.2.tmps t)) = some (e, p, d, .bool b)) (hp : p) (hn : s0.next ≤ s.next) : StepG P rd s0 c s (fun e' s' => e' = e ∧ s'.defers = d ∧ s'.tmps.getD t undef = .bool b) := by
  cases hc : (mk P K n).code f rd c { s with obl := True, orc := o } with
  | none => rw [hc] at hr; simp at hr
  | some r =>
    obtain ⟨e1, s1⟩ := r
    rw [hc] at hr
    simp only [Option.map_some, Option.some.injEq, Prod.mk.injEq] at hr
    obtain ⟨rfl, h2, h3, h4⟩ := hr
    have l1 : Like s { s with obl := True, orc := o } := ⟨rfl, rfl, rfl, rfl, rfl⟩
    have h := (mk_ok G hK n).okCode hc
    intro m ρ0 w0 w a R g1 g2 ⟨ρ, r, t⟩ g4
    have := h (by rw [h2]; exact hp) m ρ w a R (fun l hl => Nat.lt_of_lt_of_le (g1 l hl) hn) (r.like l1 rfl rfl) fun ρ' w' a' r' t' => g4 _ s1 w' a' ⟨rfl, h3, by rw [← getL_eq]; exact h4⟩ ⟨ρ', r', t.trans (l1.thenTra t')⟩
    rwa [fenceOf_ext g1 t.ext] at this
def goE (S : St) (c : Code) (o : List (Option Bool)) : Option (Exit × Prop × List Nat × Value) := ((mk Try.prog (KF eF zf) 300).code 4 none c { S with obl := True, orc := o }).map (fun r => (r.1, r.2.obl, r.2.defers, getL r.2.tmps 6))
def G1 (L : List Int) (o n : Nat) : List Int := List.take 0 (List.drop 0 ([] : List Int)) ++ List.take n (List.drop o L)
def G2 (L : List Int) (o n : Nat) : List Int := layI ([] : List Int) (0 + 0) (List.take n (List.drop o L))
variable (x : BX) (y : Y) (L Lw : List Int) (o n c p m d k : Nat) (e i : Int) (v : VF)
def pG : Prop := ((((((((((((True ∧ p + m ≤ Lw.length) ∧ decide (0 + n ≤ 0) = false) ∧ (o + n ≤ L.length ∧ 0 + 0 ≤ ([] : List Int).length ∧ (0 + n) * 1 ≤ mostBytes ∧ 0 + n ≤ mostBytes)) ∧ 0 + (0 + n) ≤ (G1 L o n).length) ∧ beqB (bytesI (List.take (0 + n) (List.drop 0 (G1 L o n)))).toList (bytesI (List.take m (List.drop p Lw))).toList = true) ∧ beqB (bytesI (List.take (0 + n) (List.drop 0 (G1 L o n)))).toList (bytesI (List.take m (List.drop p Lw))).toList = true) ∧ beqB (bytesI (List.take (0 + n) (List.drop 0 (G1 L o n)))).toList (bytesI (List.take m (List.drop p Lw))).toList = true) ∧ beqB (bytesI (List.take (0 + n) (List.drop 0 (G1 L o n)))).toList (bytesI (List.take m (List.drop p Lw))).toList = true) ∧ beqB (bytesI (List.take (0 + n) (List.drop 0 (G1 L o n)))).toList (bytesI (List.take m (List.drop p Lw))).toList = true) ∧ beqB (bytesI (List.take (0 + n) (List.drop 0 (G1 L o n)))).toList (bytesI (List.take m (List.drop p Lw))).toList = true) ∧ beqB (bytesI (List.take (0 + n) (List.drop 0 (G1 L o n)))).toList (bytesI (List.take m (List.drop p Lw))).toList = true) ∧ (e == e) = true)
def pZ0 : Prop := ((((((((((((True ∧ p + m ≤ Lw.length) ∧ decide (0 + n ≤ 0) = true) ∧ (o + n ≤ L.length ∧ 0 + 0 + n ≤ ([] : List Int).length)) ∧ 0 + (0 + n) ≤ (G2 L o n).length) ∧ beqB (bytesI (List.take (0 + n) (List.drop 0 (G2 L o n)))).toList (bytesI (List.take m (List.drop p Lw))).toList = true) ∧ beqB (bytesI (List.take (0 + n) (List.drop 0 (G2 L o n)))).toList (bytesI (List.take m (List.drop p Lw))).toList = true) ∧ beqB (bytesI (List.take (0 + n) (List.drop 0 (G2 L o n)))).toList (bytesI (List.take m (List.drop p Lw))).toList = true) ∧ beqB (bytesI (List.take (0 + n) (List.drop 0 (G2 L o n)))).toList (bytesI (List.take m (List.drop p Lw))).toList = true) ∧ beqB (bytesI (List.take (0 + n) (List.drop 0 (G2 L o n)))).toList (bytesI (List.take m (List.drop p Lw))).toList = true) ∧ beqB (bytesI (List.take (0 + n) (List.drop 0 (G2 L o n)))).toList (bytesI (List.take m (List.drop p Lw))).toList = true) ∧ beqB (bytesI (List.take (0 + n) (List.drop 0 (G2 L o n)))).toList (bytesI (List.take m (List.drop p Lw))).toList = true) ∧ (e == e) = true)
theorem eG : goE (sQ x y L Lw o n c p m d e i v) c6 (List.replicate 11 none ++ [some false, some true, some true, some true, some true] ++ List.replicate 7 none ++ [some true, some true, some true, none, some true]) = some (.ret, pG L Lw o n p m e, [], .bool true) := by kernel_rfl
theorem eZ : goE (sQ x y L Lw o n c p m d e i v) c6 (List.replicate 11 none ++ [some true, some true, some true, some true, some true] ++ List.replicate 7 none ++ [some true, some true, some true, none, some true]) = some (.ret, pZ0 L Lw o n p m e, [], .bool true) := by kernel_rfl
theorem eNa : goE (sN x y k v) c4 [some true, none, none, none, none, some false] = some (.ret, (True ∧ decide (y.a ≥ 0) = true) ∧ decide (y.a < nI 0) = false, [], .bool true) := by kernel_rfl
theorem eNb : goE (sN x y k v) c4 [some false] = some (.ret, True ∧ decide (y.a ≥ 0) = false, [], .bool true) := by kernel_rfl
end
end ff
end Go.Proofs.Ytiangelmpnnijaa
