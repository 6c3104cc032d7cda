/- Read off the code by the clean reading. -/
import Derived.Test.YtkcngffpnnlmeaaClnPv
import Derived.Test.YtkcngffpnnlmeaaClnQd
set_option linter.unusedVariables false
set_option linter.unusedSimpArgs false
set_option linter.deprecated false
set_option maxRecDepth 100000
namespace Go.Proofs.Ytkcngffpnnlmeaa
open Go.ChangeShapes Go.WideShapes Go.ChangeAt Go.RowKit Go.Cln
namespace po
open ae ga pm pn
noncomputable section
open gb (OkM OkKy keyL putR putE)
def dropC : Nat -> Code -> Code
 | 0, c => c
 | k + 1, .seq x y => dropC k y
 | _ + 1, c => c
def fstC : Code -> Code
 | .seq x _ => x
 | c => c
noncomputable def bodyC : Code := ((Try.prog.funcs[6]?).bind (·.body)).getD .skip
noncomputable def c7 : Code := dropC 7 bodyC
noncomputable def cX : Code := fstC c7
noncomputable def cR : Code := fstC cX
noncomputable def c10 : Code := dropC 1 c7
def W0 (i : Nat) : Bool := (Nat.ble 3 i && Nat.ble i 4) || Nat.beq i 7 || Nat.beq i 9 || (Nat.ble 30 i && Nat.ble i 32) || Nat.beq i 35 || (Nat.ble 37 i && Nat.ble i 38) || Nat.beq i 40 || (Nat.ble 42 i && Nat.ble i 46)
def V0 (v : VF) : VF := fun i => match Nat.beq i 0 with
 | true => .agg #[junk, junk, junk, junk, junk, junk, junk, junk, junk, junk, junk, junk, junk, junk, junk, junk]
 | false => match Nat.beq i 1 with
 | true => .agg #[junk, junk, junk, junk, junk, junk, junk, junk, junk, junk, junk, junk, junk, junk, junk, junk]
 | false => match Nat.beq i 47 with
 | true => .agg #[junk, junk, junk, junk, junk, junk, junk, junk, junk, junk, junk, junk, junk, junk, junk, junk]
 | false => match Nat.beq i 48 with
 | true => .agg #[junk, junk, junk, junk, junk, junk, junk, junk, junk, junk, junk, junk, junk, junk, junk, junk]
 | false => match Nat.beq i 49 with
 | true => .agg #[junk, junk, junk, junk, junk, junk, junk, junk, junk, junk, junk, junk, junk, junk, junk, junk, junk, junk, junk, junk, junk, junk, junk, junk, junk, junk, junk, junk, junk, junk, junk, junk]
 | false => match Nat.beq i 34 with
 | true => .tuple #[junk, junk]
 | false => match Nat.beq i 36 with
 | true => .tuple #[junk, junk]
 | false => match Nat.beq i 39 with
 | true => .tuple #[junk, junk]
 | false => match Nat.beq i 41 with
 | true => .tuple #[junk, junk]
 | false => match W0 i with
 | true => junk
 | false => v i
def B0 (i : Nat) : Bool := (Nat.beq i 2 || Nat.beq i 6 || Nat.beq i 8 || (Nat.ble 10 i && Nat.ble i 14)) || W0 i || Nat.beq i 0 || Nat.beq i 1 || Nat.beq i 47 || Nat.beq i 48 || Nat.beq i 49 || Nat.beq i 34 || Nat.beq i 36 || Nat.beq i 39 || Nat.beq i 41
theorem V0_dead {v : VF} (h : ∀ i, DeadV (v i)) (i : Nat) : DeadV (V0 v i) := by
 unfold V0
 split
 ·exact ⟨rfl, fun _ => rfl, fun _ => rfl⟩
 split
 ·exact ⟨rfl, fun _ => rfl, fun _ => rfl⟩
 split
 ·exact ⟨rfl, fun _ => rfl, fun _ => rfl⟩
 split
 ·exact ⟨rfl, fun _ => rfl, fun _ => rfl⟩
 split
 ·exact ⟨rfl, fun _ => rfl, fun _ => rfl⟩
 split
 ·exact ⟨rfl, fun _ => rfl, fun _ => rfl⟩
 split
 ·exact ⟨rfl, fun _ => rfl, fun _ => rfl⟩
 split
 ·exact ⟨rfl, fun _ => rfl, fun _ => rfl⟩
 split
 ·exact ⟨rfl, fun _ => rfl, fun _ => rfl⟩
 split
 ·exact DeadV.junk
 ·exact h i
theorem lv0 (i : Nat) (h : (Nat.beq i 2 || Nat.beq i 6 || Nat.beq i 8 || (Nat.ble 10 i && Nat.ble i 14)) = true) : B0 i = true := by
 unfold B0
 simp only [Bool.or_eq_true] at h ⊢
 refine .inl ?_
 refine .inl ?_
 refine .inl ?_
 refine .inl ?_
 refine .inl ?_
 refine .inl ?_
 refine .inl ?_
 refine .inl ?_
 refine .inl ?_
 exact .inl h
def tmQ (v : VF) (n c : Nat) : List Value := (v 0 :: v 1 :: sl 1 0 none n c :: vs v 3 3 (.bool false :: v 7 :: .int .i64 0 :: v 9 :: .int .i64 0 :: sl 6 0 none 2 2 :: P0 7 0 :: P0 8 0 :: vs v 14 219 []))
theorem tmQ_dead {v : VF} {n c : Nat} {B : Nat -> Bool} (h : ∀ i, DeadV (v i)) (hB : ∀ i, (Nat.beq i 2 || Nat.beq i 6 || Nat.beq i 8 || (Nat.ble 10 i && Nat.ble i 13)) = true -> B i = true) : deadT B 0 (tmQ v n c) :=
 ⟨fun _ => h 0, ⟨fun _ => h 1, ⟨fun e => absurd e (by rw [hB 2 rfl]; decide), deadT_vs h 3 (⟨fun e => absurd e (by rw [hB 6 rfl]; decide), ⟨fun _ => h 7, ⟨fun e => absurd e (by rw [hB 8 rfl]; decide), ⟨fun _ => h 9, ⟨fun e => absurd e (by rw [hB 10 rfl]; decide), ⟨fun e => absurd e (by rw [hB 11 rfl]; decide), ⟨fun e => absurd e (by rw [hB 12 rfl]; decide), ⟨fun e => absurd e (by rw [hB 13 rfl]; decide), deadT_vs h 219 (trivial)⟩⟩⟩⟩⟩⟩⟩⟩)⟩⟩⟩
def Wq (i : Nat) : Bool := (Nat.ble 3 i && Nat.ble i 4) || Nat.beq i 7 || Nat.beq i 9 || (Nat.ble 30 i && Nat.ble i 32) || Nat.beq i 35 || (Nat.ble 37 i && Nat.ble i 38) || Nat.beq i 40 || (Nat.ble 42 i && Nat.ble i 46)
def Bq (i : Nat) : Bool := (Nat.beq i 2 || Nat.beq i 6 || Nat.beq i 8 || (Nat.ble 10 i && Nat.ble i 13)) || Wq i || Nat.beq i 0 || Nat.beq i 1 || Nat.beq i 47 || Nat.beq i 48 || Nat.beq i 49 || Nat.beq i 34 || Nat.beq i 36 || Nat.beq i 39 || Nat.beq i 41
theorem lvq (i : Nat) (h : (Nat.beq i 2 || Nat.beq i 6 || Nat.beq i 8 || (Nat.ble 10 i && Nat.ble i 13)) = true) : Bq i = true := by
 unfold Bq
 simp only [Bool.or_eq_true] at h ⊢
 refine .inl ?_
 refine .inl ?_
 refine .inl ?_
 refine .inl ?_
 refine .inl ?_
 refine .inl ?_
 refine .inl ?_
 refine .inl ?_
 refine .inl ?_
 exact .inl h
def v00 : VF := fun _ => undef
def z0 (V : VT) (k : Nat -> Int) : Sd := ⟨k, V.fs (keyL k), V.sn (keyL k), Z0, 0, 0, 0, 0, 0, 0⟩
def sQ (x : Acts) (n c : Nat) (ks1 ks2 : Nat -> Int) (a b : Sd) (v : VF) : St := ⟨tmQ v n c, [], Tr.rebuild (HG x n 3 ks1 ks2 a b nul nul nul nul none none) 11, 11, 2, [], fun _ => false, True, []⟩
noncomputable def goR (K : Given) (x : Acts) (k1 k2 : Nat -> Int) (n c : Nat) (o : List (Option Bool)) : Option (St × Code) := runRow (mk Try.prog K 300) 6 none 7 bodyC { s00 x k1 k2 n c with obl := True, orc := o }
noncomputable def goE (K : Given) (s : St) (o : List (Option Bool)) : Option (Exit × St) := (mk Try.prog K 300).code 6 none c10 { s with obl := True, orc := o }
def oEnd : List (Option Bool) := List.replicate 26 none ++ (List.replicate 16 (some true) ++ (List.replicate 11 none ++ List.replicate 16 (some true)))
def Fin (e : Exit) (t : St) : Prop := leaves? e = true /\ t.defers = [] /\ t.tmps.getD 6 undef = .bool true
def pEnd (G : ae.GT) (x : Acts) (a b : Sd) (T1 T2 : Prop) (X1 X2 : Nat -> Int) : Prop := E16 ((E16 (((True /\ T1) /\ T2) /\ askK G x (ky a b 0) a) X1 (G (gb.keyL (ky a b 0)) (wd (x.D a.A) 0 a.n))) /\ askK G x (ky a b 16) b) X2 (G (gb.keyL (ky a b 16)) (wd (x.D b.A) 0 b.n)) /\ True
def eE (K : Given) (s : St) (p : Prop) : Prop := (goE K s oEnd).map (fun r => (r.1, r.2.obl, r.2.defers, getL r.2.tmps 6)) = some (.ret, p, [], .bool true)
theorem ended {K : Given} (hK : GivenOk Try.prog K) {x0 : Acts} {k1 k2 : Nat -> Int} {n c : Nat} {s : St} {p : Prop} (h : eE K s p) (hp : p) (hn : 2 <= s.next) : StepG Try.prog none (s00 x0 k1 k2 n c) c10 s Fin := (StepG.ran pg hK h hp hn).mono (by rintro e t ⟨rfl, h1, h2⟩; exact ⟨rfl, h1, h2⟩)
section
variable (G : ae.GT) (V : VT) (x : Acts) (n c k : Nat) (ks1 ks2 : Nat -> Int) (a b : Sd) (v : VF)
theorem re3EE : eE (KM G V x.D) (s3EE x n c k ks1 ks2 a b v) (pEnd G x a b (V = VT0) (V = VT0) (tgS V ks1 a [] 0) (tgS V ks2 b [] 0)) := by unfold eE; kernel_rfl
theorem re3ER : eE (KM G V x.D) (s3ER x n c k ks1 ks2 a b v) (pEnd G x a b (V = VT0) (askT V x b) (tgS V ks1 a [] 0) (tgS V ks2 b (x.D b.P) b.r)) := by unfold eE; kernel_rfl
theorem re3RE : eE (KM G V x.D) (s3RE x n c k ks1 ks2 a b v) (pEnd G x a b (askT V x a) (V = VT0) (tgS V ks1 a (x.D a.P) a.r) (tgS V ks2 b [] 0)) := by unfold eE; kernel_rfl
theorem re3RR : eE (KM G V x.D) (s3RR x n c k ks1 ks2 a b v) (pEnd G x a b (askT V x a) (askT V x b) (tgS V ks1 a (x.D a.P) a.r) (tgS V ks2 b (x.D b.P) b.r)) := by unfold eE; kernel_rfl
theorem re2EE : eE (KM G V x.D) (s2EE x n c k ks1 ks2 a b v) (pEnd G x a b (V = VT0) (V = VT0) (tgS V ks1 a [] 0) (tgS V ks1 b [] 0)) := by unfold eE; kernel_rfl
theorem re2ER : eE (KM G V x.D) (s2ER x n c k ks1 ks2 a b v) (pEnd G x a b (V = VT0) (askT V x b) (tgS V ks1 a [] 0) (tgS V ks1 b (x.D b.P) b.r)) := by unfold eE; kernel_rfl
theorem re2RE : eE (KM G V x.D) (s2RE x n c k ks1 ks2 a b v) (pEnd G x a b (askT V x a) (V = VT0) (tgS V ks1 a (x.D a.P) a.r) (tgS V ks1 b [] 0)) := by unfold eE; kernel_rfl
theorem re2RR : eE (KM G V x.D) (s2RR x n c k ks1 ks2 a b v) (pEnd G x a b (askT V x a) (askT V x b) (tgS V ks1 a (x.D a.P) a.r) (tgS V ks1 b (x.D b.P) b.r)) := by unfold eE; kernel_rfl
end
theorem goodE {x0 x : Acts} {k1 k2 : Nat -> Int} {n c k : Nat} {t : St} (h : Good x n c k t) (hk : k <= 15) : StepG Try.prog none (s00 x0 k1 k2 n c) c10 t Fin := by
 cases h with
 | g3EE hv hA hB => exact ended (KM_ok tagF VT0 x.D) (re3EE ..) ⟨e16 ⟨e16 ⟨⟨⟨trivial, rfl⟩, rfl⟩, akE (ky0 _ _) hA⟩ (tgE (ky0 _ _) hA), akE (ky1 _ _) hB⟩ (tgE (ky1 _ _) hB), trivial⟩ (show 2 <= 11 by decide)
 | g3ER hv hA hB => exact ended (KM_ok tagF VT0 x.D) (re3ER ..) ⟨e16 ⟨e16 ⟨⟨⟨trivial, rfl⟩, ⟨rfl, rfl, hB.r.2, wd_len0 hB.lenL⟩⟩, akE (ky0 _ _) hA⟩ (tgE (ky0 _ _) hA), akR (ky1 _ _) hB hk⟩ (tgR (ky1 _ _) hB), trivial⟩ (show 2 <= 11 by decide)
 | g3RE hv hA hB => exact ended (KM_ok tagF VT0 x.D) (re3RE ..) ⟨e16 ⟨e16 ⟨⟨⟨trivial, ⟨rfl, rfl, hA.r.2, wd_len0 hA.lenL⟩⟩, rfl⟩, akR (ky0 _ _) hA hk⟩ (tgR (ky0 _ _) hA), akE (ky1 _ _) hB⟩ (tgE (ky1 _ _) hB), trivial⟩ (show 2 <= 11 by decide)
 | g3RR hv hA hB => exact ended (KM_ok tagF VT0 x.D) (re3RR ..) ⟨e16 ⟨e16 ⟨⟨⟨trivial, ⟨rfl, rfl, hA.r.2, wd_len0 hA.lenL⟩⟩, ⟨rfl, rfl, hB.r.2, wd_len0 hB.lenL⟩⟩, akR (ky0 _ _) hA hk⟩ (tgR (ky0 _ _) hA), akR (ky1 _ _) hB hk⟩ (tgR (ky1 _ _) hB), trivial⟩ (show 2 <= 11 by decide)
 | g2EE hv hA hB => exact ended (KM_ok tagF VT0 x.D) (re2EE ..) ⟨e16 ⟨e16 ⟨⟨⟨trivial, rfl⟩, rfl⟩, akE (ky0 _ _) hA⟩ (tgE (ky0 _ _) hA), akE (ky1 _ _) hB⟩ (tgE (ky1 _ _) hB), trivial⟩ (show 2 <= 11 by decide)
 | g2ER hv hA hB => exact ended (KM_ok tagF VT0 x.D) (re2ER ..) ⟨e16 ⟨e16 ⟨⟨⟨trivial, rfl⟩, ⟨rfl, rfl, hB.r.2, wd_len0 hB.lenL⟩⟩, akE (ky0 _ _) hA⟩ (tgE (ky0 _ _) hA), akR (ky1 _ _) hB hk⟩ (tgR (ky1 _ _) hB), trivial⟩ (show 2 <= 11 by decide)
 | g2RE hv hA hB => exact ended (KM_ok tagF VT0 x.D) (re2RE ..) ⟨e16 ⟨e16 ⟨⟨⟨trivial, ⟨rfl, rfl, hA.r.2, wd_len0 hA.lenL⟩⟩, rfl⟩, akR (ky0 _ _) hA hk⟩ (tgR (ky0 _ _) hA), akE (ky1 _ _) hB⟩ (tgE (ky1 _ _) hB), trivial⟩ (show 2 <= 11 by decide)
 | g2RR hv hA hB => exact ended (KM_ok tagF VT0 x.D) (re2RR ..) ⟨e16 ⟨e16 ⟨⟨⟨trivial, ⟨rfl, rfl, hA.r.2, wd_len0 hA.lenL⟩⟩, ⟨rfl, rfl, hB.r.2, wd_len0 hB.lenL⟩⟩, akR (ky0 _ _) hA hk⟩ (tgR (ky0 _ _) hA), akR (ky1 _ _) hB hk⟩ (tgR (ky1 _ _) hB), trivial⟩ (show 2 <= 11 by decide)
open ae ga pm pn
open gb (OkM OkKy keyL putR putE)
theorem round {x0 x : Acts} {k1 k2 : Nat -> Int} {n c k : Nat} {t : St} (hr : Rows x n) (hk : k < n) (hn : n <= 15) (h : Good x n c k t) :
  StepG Try.prog none (s00 x0 k1 k2 n c) lb t fun e s => (e = .normal /\ ∃ y, Rows y n /\ Good y n c (k + 1) s) ∨ (e = .ret /\ Fin e s) := by
 have fb : ∀ {s}, StepG Try.prog none (s00 x0 k1 k2 n c) lb s (fun e t => e = .ret /\ t.defers = [] /\ t.tmps.getD 6 undef = .bool true) -> StepG Try.prog none (s00 x0 k1 k2 n c) lb s fun e s => (e = .normal /\ ∃ y, Rows y n /\ Good y n c (k + 1) s) ∨ (e = .ret /\ Fin e s) := fun h => h.mono (by rintro e s ⟨rfl, h1, h2⟩; exact .inr ⟨rfl, rfl, h1, h2⟩)
 have fg : ∀ {s}, RD x0 k1 k2 n c k s -> StepG Try.prog none (s00 x0 k1 k2 n c) lb s fun e s => (e = .normal /\ ∃ y, Rows y n /\ Good y n c (k + 1) s) ∨ (e = .ret /\ Fin e s) := fun h => StepG.mono h fun e s h => .inl h
 cases htw : x.tw (ix k) <;> by_cases hw : x.wh (ix k) = 0
 ·by_cases h40 : x.m (ix k) <= 40
  ·by_cases h0 : x.m (ix k) = 0
   ·cases h with
    | g3EE hv hA hB => exact fg (g3EEw00 ⟨hv, hr, hk, hn⟩ hA hB htw hw h40 h0)
    | g3ER hv hA hB => exact fg (g3ERw00 ⟨hv, hr, hk, hn⟩ hA hB htw hw h40 h0)
    | g3RE hv hA hB => exact fg (g3REw00 ⟨hv, hr, hk, hn⟩ hA hB htw hw h40 h0)
    | g3RR hv hA hB => exact fg (g3RRw00 ⟨hv, hr, hk, hn⟩ hA hB htw hw h40 h0)
    | g2EE hv hA hB => exact fg (g2EEw00 ⟨hv, hr, hk, hn⟩ hA hB htw hw h40 h0)
    | g2ER hv hA hB => exact fg (g2ERw00 ⟨hv, hr, hk, hn⟩ hA hB htw hw h40 h0)
    | g2RE hv hA hB => exact fg (g2REw00 ⟨hv, hr, hk, hn⟩ hA hB htw hw h40 h0)
    | g2RR hv hA hB => exact fg (g2RRw00 ⟨hv, hr, hk, hn⟩ hA hB htw hw h40 h0)
   ·cases h with
    | g3EE hv hA hB => exact fg (g3EEw10 ⟨hv, hr, hk, hn⟩ hA hB htw hw h40 h0)
    | g3ER hv hA hB => exact fg (g3ERw10 ⟨hv, hr, hk, hn⟩ hA hB htw hw h40 h0)
    | g3RE hv hA hB => exact fg (g3REw10 ⟨hv, hr, hk, hn⟩ hA hB htw hw h40 h0)
    | g3RR hv hA hB => exact fg (g3RRw10 ⟨hv, hr, hk, hn⟩ hA hB htw hw h40 h0)
    | g2EE hv hA hB => exact fg (g2EEw10 ⟨hv, hr, hk, hn⟩ hA hB htw hw h40 h0)
    | g2ER hv hA hB => exact fg (g2ERw10 ⟨hv, hr, hk, hn⟩ hA hB htw hw h40 h0)
    | g2RE hv hA hB => exact fg (g2REw10 ⟨hv, hr, hk, hn⟩ hA hB htw hw h40 h0)
    | g2RR hv hA hB => exact fg (g2RRw10 ⟨hv, hr, hk, hn⟩ hA hB htw hw h40 h0)
  ·cases h with
   | g3EE hv hA hB => exact fb (gb3EE0 ⟨hv, hr, hk, hn⟩ htw hw (by omega))
   | g3ER hv hA hB => exact fb (gb3ER0 ⟨hv, hr, hk, hn⟩ htw hw (by omega))
   | g3RE hv hA hB => exact fb (gb3RE0 ⟨hv, hr, hk, hn⟩ htw hw (by omega))
   | g3RR hv hA hB => exact fb (gb3RR0 ⟨hv, hr, hk, hn⟩ htw hw (by omega))
   | g2EE hv hA hB => exact fb (gb2EE0 ⟨hv, hr, hk, hn⟩ htw hw (by omega))
   | g2ER hv hA hB => exact fb (gb2ER0 ⟨hv, hr, hk, hn⟩ htw hw (by omega))
   | g2RE hv hA hB => exact fb (gb2RE0 ⟨hv, hr, hk, hn⟩ htw hw (by omega))
   | g2RR hv hA hB => exact fb (gb2RR0 ⟨hv, hr, hk, hn⟩ htw hw (by omega))
 ·by_cases hw1 : x.wh (ix k) = 1
  ·cases h with
   | g3EE hv hA hB => exact fg (g3EEt0 ⟨hv, hr, hk, hn⟩ hA hB htw hw hw1)
   | g3ER hv hA hB => exact fg (g3ERt0 ⟨hv, hr, hk, hn⟩ hA hB htw hw hw1)
   | g3RE hv hA hB => exact fg (g3REt0 ⟨hv, hr, hk, hn⟩ hA hB htw hw hw1)
   | g3RR hv hA hB => exact fg (g3RRt0 ⟨hv, hr, hk, hn⟩ hA hB htw hw hw1)
   | g2EE hv hA hB => exact fg (g2EEt0 ⟨hv, hr, hk, hn⟩ hA hB htw hw hw1)
   | g2ER hv hA hB => exact fg (g2ERt0 ⟨hv, hr, hk, hn⟩ hA hB htw hw hw1)
   | g2RE hv hA hB => exact fg (g2REt0 ⟨hv, hr, hk, hn⟩ hA hB htw hw hw1)
   | g2RR hv hA hB => exact fg (g2RRt0 ⟨hv, hr, hk, hn⟩ hA hB htw hw hw1)
  ·cases h with
   | g3EE hv hA hB => exact fg (g3EEc0 ⟨hv, hr, hk, hn⟩ hA hB htw hw hw1)
   | g3ER hv hA hB => exact fg (g3ERc0 ⟨hv, hr, hk, hn⟩ hA hB htw hw hw1)
   | g3RE hv hA hB => exact fg (g3REc0 ⟨hv, hr, hk, hn⟩ hA hB htw hw hw1)
   | g3RR hv hA hB => exact fg (g3RRc0 ⟨hv, hr, hk, hn⟩ hA hB htw hw hw1)
   | g2EE hv hA hB => exact fg (g2EEc0 ⟨hv, hr, hk, hn⟩ hA hB htw hw hw1)
   | g2ER hv hA hB => exact fg (g2ERc0 ⟨hv, hr, hk, hn⟩ hA hB htw hw hw1)
   | g2RE hv hA hB => exact fg (g2REc0 ⟨hv, hr, hk, hn⟩ hA hB htw hw hw1)
   | g2RR hv hA hB => exact fg (g2RRc0 ⟨hv, hr, hk, hn⟩ hA hB htw hw hw1)
 ·by_cases h40 : x.m (ix k) <= 40
  ·by_cases h0 : x.m (ix k) = 0
   ·cases h with
    | g3EE hv hA hB => exact fg (g3EEw01 ⟨hv, hr, hk, hn⟩ hA hB htw hw h40 h0)
    | g3ER hv hA hB => exact fg (g3ERw01 ⟨hv, hr, hk, hn⟩ hA hB htw hw h40 h0)
    | g3RE hv hA hB => exact fg (g3REw01 ⟨hv, hr, hk, hn⟩ hA hB htw hw h40 h0)
    | g3RR hv hA hB => exact fg (g3RRw01 ⟨hv, hr, hk, hn⟩ hA hB htw hw h40 h0)
    | g2EE hv hA hB => exact fg (g2EEw01 ⟨hv, hr, hk, hn⟩ hA hB htw hw h40 h0)
    | g2ER hv hA hB => exact fg (g2ERw01 ⟨hv, hr, hk, hn⟩ hA hB htw hw h40 h0)
    | g2RE hv hA hB => exact fg (g2REw01 ⟨hv, hr, hk, hn⟩ hA hB htw hw h40 h0)
    | g2RR hv hA hB => exact fg (g2RRw01 ⟨hv, hr, hk, hn⟩ hA hB htw hw h40 h0)
   ·cases h with
    | g3EE hv hA hB => exact fg (g3EEw11 ⟨hv, hr, hk, hn⟩ hA hB htw hw h40 h0)
    | g3ER hv hA hB => exact fg (g3ERw11 ⟨hv, hr, hk, hn⟩ hA hB htw hw h40 h0)
    | g3RE hv hA hB => exact fg (g3REw11 ⟨hv, hr, hk, hn⟩ hA hB htw hw h40 h0)
    | g3RR hv hA hB => exact fg (g3RRw11 ⟨hv, hr, hk, hn⟩ hA hB htw hw h40 h0)
    | g2EE hv hA hB => exact fg (g2EEw11 ⟨hv, hr, hk, hn⟩ hA hB htw hw h40 h0)
    | g2ER hv hA hB => exact fg (g2ERw11 ⟨hv, hr, hk, hn⟩ hA hB htw hw h40 h0)
    | g2RE hv hA hB => exact fg (g2REw11 ⟨hv, hr, hk, hn⟩ hA hB htw hw h40 h0)
    | g2RR hv hA hB => exact fg (g2RRw11 ⟨hv, hr, hk, hn⟩ hA hB htw hw h40 h0)
  ·cases h with
   | g3EE hv hA hB => exact fb (gb3EE1 ⟨hv, hr, hk, hn⟩ htw hw (by omega))
   | g3ER hv hA hB => exact fb (gb3ER1 ⟨hv, hr, hk, hn⟩ htw hw (by omega))
   | g3RE hv hA hB => exact fb (gb3RE1 ⟨hv, hr, hk, hn⟩ htw hw (by omega))
   | g3RR hv hA hB => exact fb (gb3RR1 ⟨hv, hr, hk, hn⟩ htw hw (by omega))
   | g2EE hv hA hB => exact fb (gb2EE1 ⟨hv, hr, hk, hn⟩ htw hw (by omega))
   | g2ER hv hA hB => exact fb (gb2ER1 ⟨hv, hr, hk, hn⟩ htw hw (by omega))
   | g2RE hv hA hB => exact fb (gb2RE1 ⟨hv, hr, hk, hn⟩ htw hw (by omega))
   | g2RR hv hA hB => exact fb (gb2RR1 ⟨hv, hr, hk, hn⟩ htw hw (by omega))
 ·by_cases hw1 : x.wh (ix k) = 1
  ·cases h with
   | g3EE hv hA hB => exact fg (g3EEt1 ⟨hv, hr, hk, hn⟩ hA hB htw hw hw1)
   | g3ER hv hA hB => exact fg (g3ERt1 ⟨hv, hr, hk, hn⟩ hA hB htw hw hw1)
   | g3RE hv hA hB => exact fg (g3REt1 ⟨hv, hr, hk, hn⟩ hA hB htw hw hw1)
   | g3RR hv hA hB => exact fg (g3RRt1 ⟨hv, hr, hk, hn⟩ hA hB htw hw hw1)
   | g2EE hv hA hB => exact fg (g2EEt1 ⟨hv, hr, hk, hn⟩ hA hB htw hw hw1)
   | g2ER hv hA hB => exact fg (g2ERt1 ⟨hv, hr, hk, hn⟩ hA hB htw hw hw1)
   | g2RE hv hA hB => exact fg (g2REt1 ⟨hv, hr, hk, hn⟩ hA hB htw hw hw1)
   | g2RR hv hA hB => exact fg (g2RRt1 ⟨hv, hr, hk, hn⟩ hA hB htw hw hw1)
  ·cases h with
   | g3EE hv hA hB => exact fg (g3EEc1 ⟨hv, hr, hk, hn⟩ hA hB htw hw hw1)
   | g3ER hv hA hB => exact fg (g3ERc1 ⟨hv, hr, hk, hn⟩ hA hB htw hw hw1)
   | g3RE hv hA hB => exact fg (g3REc1 ⟨hv, hr, hk, hn⟩ hA hB htw hw hw1)
   | g3RR hv hA hB => exact fg (g3RRc1 ⟨hv, hr, hk, hn⟩ hA hB htw hw hw1)
   | g2EE hv hA hB => exact fg (g2EEc1 ⟨hv, hr, hk, hn⟩ hA hB htw hw hw1)
   | g2ER hv hA hB => exact fg (g2ERc1 ⟨hv, hr, hk, hn⟩ hA hB htw hw hw1)
   | g2RE hv hA hB => exact fg (g2REc1 ⟨hv, hr, hk, hn⟩ hA hB htw hw hw1)
   | g2RR hv hA hB => exact fg (g2RRc1 ⟨hv, hr, hk, hn⟩ hA hB htw hw hw1)
theorem exitX {x0 x : Acts} {k1 k2 : Nat -> Int} {n c : Nat} {t : St} (h : Good x n c n t) : StepG Try.prog none (s00 x0 k1 k2 n c) lb t fun e s => e = .exit 0 /\ Good x n c n s := by
 cases h with
 | g3EE hv hA hB => exact gx3EE hv hA hB
 | g3ER hv hA hB => exact gx3ER hv hA hB
 | g3RE hv hA hB => exact gx3RE hv hA hB
 | g3RR hv hA hB => exact gx3RR hv hA hB
 | g2EE hv hA hB => exact gx2EE hv hA hB
 | g2ER hv hA hB => exact gx2ER hv hA hB
 | g2RE hv hA hB => exact gx2RE hv hA hB
 | g2RR hv hA hB => exact gx2RR hv hA hB
theorem loopT {x0 x : Acts} {k1 k2 : Nat -> Int} {n c : Nat} {t : St} (hr : Rows x n) (hn : n <= 15) (h : Good x n c 0 t) :
  StepG Try.prog none (s00 x0 k1 k2 n c) (.loop lb) t fun e s => (e = .exit 0 /\ ∃ y, Good y n c n s) ∨ (e = .ret /\ Fin e s) := by
 refine StepG.loop (fun m s => ∃ y k, m = n - k /\ k <= n /\ Rows y n /\ Good y n c k s) ?_ n t ⟨x, 0, by omega, Nat.zero_le _, hr, h⟩
 rintro m s ⟨y, k, rfl, hk, hy, hg⟩
 by_cases he : k = n
 ·subst he
  refine (exitX hg).mono ?_
  rintro e s ⟨rfl, h⟩
  exact .inr ⟨(by intro h; cases h), .inl ⟨rfl, y, h⟩⟩
 ·refine (round hy (by omega) hn hg).mono ?_
  rintro e s (⟨rfl, y', h1, h2⟩ | ⟨rfl, h⟩)
  ·exact .inl ⟨rfl, n - (k + 1), by omega, y', k + 1, rfl, by omega, h1, h2⟩
  ·exact .inr ⟨(by intro h; cases h), .inr ⟨rfl, h⟩⟩
def pP (V : VT) (k1 k2 : Nat -> Int) (n : Nat) : Prop := ((True /\ decide (nI n > 15) = false) /\ (V = VT0 /\ V.ok (keyL k1))) /\ (V = VT0 /\ V.ok (keyL k2))
theorem rP (G : ae.GT) (V : VT) (x : Acts) (k1 k2 : Nat -> Int) (n c : Nat) : (goR (KM G V x.D) x k1 k2 n c [some false]).map (fun r => (r.2, r.1.obl, seenInT Bq r.1 (sQ x n c (V.ks (keyL k1)) (V.ks (keyL k2)) (z0 V k1) (z0 V k2) (V0 v00)) [0, 1, 5, 97, 95, 187, 188, 189, 190])) = some (c7, pP V k1 k2 n, seenAsT Bq (sQ x n c (V.ks (keyL k1)) (V.ks (keyL k2)) (z0 V k1) (z0 V k2) (V0 v00)) [0, 1, 5, 97, 95, 187, 188, 189, 190] 191) := by kernel_rfl
theorem rQ (G : ae.GT) (V : VT) (x : Acts) (k1 k2 : Nat -> Int) (n c : Nat) : (runRow (mk Try.prog (KM G V x.D) 300) 6 none 1 cX { (sQ x n c (V.ks (keyL k1)) (V.ks (keyL k2)) (z0 V k1) (z0 V k2) (V0 v00)) with obl := True, orc := [] }).map (fun r => (r.2, r.1.obl, seenInT B0 r.1 (sG x n c 3 0 (V.ks (keyL k1)) (V.ks (keyL k2)) (z0 V k1) (z0 V k2) nul nul nul nul none none (V0 v00)) [0, 1, 2, 3, 4, 5, 6, 7, 8, 9, 10])) = some (.block 0 (.loop lb), True, seenAsT B0 (sG x n c 3 0 (V.ks (keyL k1)) (V.ks (keyL k2)) (z0 V k1) (z0 V k2) nul nul nul nul none none (V0 v00)) [0, 1, 2, 3, 4, 5, 6, 7, 8, 9, 10] 11) := by kernel_rfl
theorem c7_eq : c7 = .seq cX c10 := by kernel_rfl
theorem StepG.wk {P : Program} {rd : Option Nat} {s0 s s2 : St} {c : Code} {Q : Exit -> St -> Prop} (v : Wk s s2) (h : StepG P rd s0 c s2 Q) : StepG P rd s0 c s Q := fun n ρ0 w0 w a R h1 h2 h3 h4 => h n ρ0 w0 w a R h1 h2 (h3.weak v) h4
theorem wk0 {x : Acts} {k1 k2 : Nat -> Int} {n c : Nat} : Wk (sG x n c 3 0 (VT0.ks (keyL k1)) (VT0.ks (keyL k2)) (z0 VT0 k1) (z0 VT0 k2) nul nul nul nul none none (V0 v00)) (sG x n c 3 0 (VT0.ks (keyL k1)) (VT0.ks (keyL k2)) (z0 VT0 k1) (z0 VT0 k2) nul nul (PAl (z0 VT0 k1)) (PAl (z0 VT0 k2)) none none (V0 v00)) := by
 refine ⟨rfl, rfl, rfl, rfl, rfl, rfl, ⟨(show 0 < 11 by decide), rfl⟩, fun b o2 hb => ?_, fun b hb => ?_⟩
 ·rw [get_sG] at hb
  rw [get_sG]
  split at hb
  ·rename_i hlt
   have hc : b = 0 ∨ b = 1 ∨ b = 2 ∨ b = 3 ∨ b = 4 ∨ b = 5 ∨ b = 6 ∨ b = 7 ∨ b = 8 ∨ b = 9 ∨ b = 10 := by omega
   rcases hc with rfl | rfl | rfl | rfl | rfl | rfl | rfl | rfl | rfl | rfl | rfl
   all_goals first
    | exact ⟨o2, hb, .inl rfl⟩
    | (cases hb
       refine ⟨_, rfl, .inr ⟨_, _, _, rfl, rfl, fun i y hy => ?_⟩⟩
       rcases i with _ | _ | i
       ·cases hy; exact ⟨nul, rfl, .inr ⟨rfl, none, rfl⟩⟩
       ·cases hy; exact ⟨nul, rfl, .inr ⟨rfl, none, rfl⟩⟩
       ·cases hy)
  ·cases hb
 ·rw [get_sG, get_sG]
  have : b = 0 ∨ b = 1 := by
   rcases Nat.lt_or_ge b 2 with h | h
   ·omega
   ·exfalso
    have : (decide (2 <= b) && !(List.contains [] b)) = true := by rw [decide_eq_true h]; rfl
    have hb : (decide (2 <= b) && !(List.contains [] b)) = false := hb
    rw [this] at hb; cases hb
  rcases this with rfl | rfl <;> rfl
theorem bodyT {x : Acts} {k1 k2 : Nat -> Int} {n c : Nat} (hr : Rows x n) (hn : n <= 15) (h1 : OkKy k1) (h2 : OkKy k2) : StepG Try.prog none (s00 x k1 k2 n c) bodyC (s00 x k1 k2 n c) Fin := by
 have hV := v00
 have hdead : ∀ i, DeadV (V0 v00 i) := V0_dead fun _ => DeadV.undef
 refine StepG.seqs (s0 := s00 x k1 k2 n c) (c' := c7) (s2 := (sQ x n c (VT0.ks (keyL k1)) (VT0.ks (keyL k2)) (z0 VT0 k1) (z0 VT0 k2) (V0 v00))) (σ := [0, 1, 5, 97, 95, 187, 188, 189, 190]) pg (KM_ok tagF VT0 x.D) (B := Bq) (k := 7) (n := 300) (g := HG x n 3 _ _ _ _ nul nul nul nul none none) (rP tagF VT0 x k1 k2 n c) ⟨⟨⟨trivial, by simp only [nI, decide_eq_false_iff_not]; omega⟩, rfl, gb.keyL_ok h1⟩, rfl, gb.keyL_ok h2⟩ (Nat.le_refl _) (tmQ_dead hdead lvq) (HG_ok (.inl rfl) (.inl rfl)) rfl (by kernel_rfl) ?_
 rw [c7_eq]
 refine StepG.seq (StepG.mono (Q := fun e s => (e = .normal /\ ∃ y, Good y n c n s) ∨ (e = .ret /\ Fin e s)) ?_ ?_)
 ·refine StepG.seqs (s0 := s00 x k1 k2 n c) (c' := .block 0 (.loop lb)) (s2 := (sG x n c 3 0 (VT0.ks (keyL k1)) (VT0.ks (keyL k2)) (z0 VT0 k1) (z0 VT0 k2) nul nul nul nul none none (V0 v00))) (σ := [0, 1, 2, 3, 4, 5, 6, 7, 8, 9, 10]) pg (KM_ok tagF VT0 x.D) (B := B0) (k := 1) (n := 300) (g := HG x n 3 _ _ _ _ nul nul nul nul none none) (rQ tagF VT0 x k1 k2 n c) trivial (show 2 <= 11 by decide) (tmM_dead hdead lv0) (HG_ok (.inl rfl) (.inl rfl)) rfl (by kernel_rfl) ?_
  refine StepG.wk wk0 (StepG.block ?_)
  refine (loopT hr hn (.g3EE (ks1 := VT0.ks (keyL k1)) (ks2 := VT0.ks (keyL k2)) (a := z0 VT0 k1) (b := z0 VT0 k2) hdead ⟨h1, gb.zM_ok _, rfl⟩ ⟨h2, gb.zM_ok _, rfl⟩)).mono ?_
  rintro e s (⟨rfl, y, h⟩ | ⟨rfl, h⟩)
  ·exact .inl ⟨rfl, y, h⟩
  ·exact .inr ⟨rfl, h⟩
 ·rintro e s (⟨rfl, y, h⟩ | ⟨rfl, h⟩)
  ·exact .inl ⟨rfl, goodE h hn⟩
  ·exact .inr ⟨(by intro h; cases h), h⟩
theorem fn6 : (Try.prog.funcs[6]?).map (fun f => (f.body, f.results.toList, f.ntmps)) = some (some bodyC, [.tmp 6], 233) := by kernel_rfl
theorem playsS {x : Acts} {W : World} {b o n c : Nat} {k1 k2 : Nat -> Int} (hat : x.At W b o n) (hr : Rows x n) (hn : n <= 15) (hc : n <= c) (h1 : OkKy k1) (h2 : OkKy k2) :
  Calls Try.prog 6 #[row16 k1, row16 k2, .slice (some ⟨b, o, none⟩) n c] W fun e w' => e = .returned (.bool true) /\ Below W.heap.size W w' := by
 obtain ⟨ρ, g1, g2⟩ := Acts.start hat []
 have hf := fn6
 cases e : Try.prog.funcs[6]? with
 | none => rw [e] at hf; cases hf
 | some f =>
  rw [e] at hf
  simp only [Option.map_some, Option.some.injEq, Prod.mk.injEq] at hf
  obtain ⟨f1, f2, f3⟩ := hf
  have hb := bodyT (x := x) (c := c) hr hn h1 h2
  have key : ∀ (l : List Value), l = [row16 k1, row16 k2, sl 1 0 none n c] -> StepG Try.prog none { St.start 2 (Tr.ofL (x.heap n)) [] with tmps := l ++ List.replicate (f.ntmps - l.length) undef, defers := [] } bodyC { St.start 2 (Tr.ofL (x.heap n)) [] with tmps := l ++ List.replicate (f.ntmps - l.length) undef, defers := [] } Fin := by
   rintro l rfl
   rw [f3]
   exact hb
  exact calls_ofG (args := [row16 k1, row16 k2, sl 1 0 none n c]) (args' := [row16 k1, row16 k2, .slice (some ⟨b, o, none⟩) n c]) (ρ := ρ) e f1 f2 (key _ rfl) g1 (VL.cons (.of_flat rfl) (VL.cons (.of_flat rfl) (VL.cons (g2 n c hc) VL.nil)))
open ae ga pm pn
open gb (OkM OkKy keyL putR putE)
theorem run15n (TG : ae.GT) (K : List Int) (c : Nat) : ((mk Try.prog (pm.KFQ TG) 200).call 15 [sl 0 0 none 16 c, .slice none 0 0] (smSt 1 [oI K] [])).map (fun r => (r.1, r.2.obl, r.2.next, keepL ([true] ++ List.replicate 148 false) r.2.heap.get 0)) =
  some (row16 (TG (wd K 0 16) []), True /\ (TG = tagF /\ OkK (wd K 0 16)), ([oI K] ++ List.replicate 148 none).length, [oI K] ++ List.replicate 148 none) := by kernel_rfl
def FNl (TG : ae.GT) (f : FuncId) (args : List Value) (s : St) : Option Inst := if f == 15 then (match args with
 | [.slice (some ⟨b, o, none⟩) 16 c, .slice none 0 0] => (match s.heap.get b with
  | some (.cells (.lit L) _) => if isN 16 ((L.drop o).take 16).toArray then some ⟨[(b, o)], 1, [oI (keyL (intAt ((L.drop o).take 16)))], [sl 0 0 none 16 c, .slice none 0 0], row16 (TG (keyL (intAt ((L.drop o).take 16))) []), [oI (keyL (intAt ((L.drop o).take 16)))] ++ List.replicate 148 none, TG = tagF /\ OkKy (intAt ((L.drop o).take 16))⟩ else none
  | _ => none)
 | _ => none) else none
theorem FNl_ok (TG : ae.GT) (f : FuncId) (args : List Value) (s : St) (i : Inst) (h : FNl TG f args s = some i) : Fits s i args /\ (i.ask -> CallOk Try.prog f i.args i.s0 i.val i.s1) := by
 unfold FNl at h
 split at h
 ·rename_i hf
  have hf' : f = 15 := by simpa using hf
  subst hf'
  split at h
  ·rename_i b o c
   split at h
   ·rename_i L tb hb
    split at h
    ·rename_i hn
     cases h
     refine ⟨⟨?_, fun j pp ob h1 hh => ?_⟩, fun ha => ?_⟩
     ·show [Value.slice (some ⟨b, o, none⟩) 16 c, .slice none 0 0] = [Value.slice (some ⟨b, addO o 0, none⟩) 16 c, .slice none 0 0]
      rw [addO_eq]; rfl
     ·rcases j with _ | j
      ·simp only [List.getElem?_cons_zero, Option.some.injEq] at h1
       subst h1
       simp only [oI, List.getElem?_cons_zero, Option.some.injEq] at hh
       subst hh
       exact ⟨_, hb, pm.fit_keyAt hn⟩
      ·simp at h1
     ·obtain ⟨rfl, q1⟩ := ha
      have hK := gb.keyL_ok q1
      have := frame_by pg (pm.KFQ_ok tagF) _ (run15n tagF (keyL (intAt ((L.drop o).take 16))) c) ⟨trivial, rfl, by rw [wd_all (show (keyL (intAt ((L.drop o).take 16))).length = 16 from rfl)]; exact hK⟩ (by rfl) rfl
      rw [wd_all (show (keyL (intAt ((L.drop o).take 16))).length = 16 from rfl)] at this
      exact this
    ·cases h
   ·cases h
  ·cases h
 ·cases h
noncomputable def KE (G : ae.GT) (V : VT) : Given := { Given.frames (Given.frames (Given.frames Given.nothing F9w) (FNl G)) (gb.FT V) with fits := true }
theorem KE_ok (G : ae.GT) (V : VT) : GivenOk Try.prog (KE G V) := frames_fits ((((GivenOk.nothing _).frames F9w_ok).frames (FNl_ok G)).frames (gb.FT_ok V)) true
noncomputable def cE6 (G : ae.GT) (V : VT) (k1 k2 : Nat -> Int) (v : Value) (m : Nat) (o : List (Option Bool)) : Option (Value × St) := (mk Try.prog (KE G V) 300).call 6 [row16 k1, row16 k2, v] (St.start m .leaf o)
open ae ga pm pn
open gb (OkM OkKy keyL putR putE)
def oN6 : List (Option Bool) := List.replicate 30 none ++ (List.replicate 16 (some true) ++ (List.replicate 11 none ++ List.replicate 16 (some true)))
def pE6 (G : ae.GT) (V : VT) (k1 k2 : Nat -> Int) : Prop := E16 ((E16 (((((True /\ (V = VT0 /\ V.ok (keyL k1))) /\ (V = VT0 /\ V.ok (keyL k2))) /\ V = VT0) /\ V = VT0) /\ (G = tagF /\ OkKy (ky (z0 V k1) (z0 V k2) 0))) (tgS V (V.ks (keyL k1)) (z0 V k1) [] 0) (G (keyL (ky (z0 V k1) (z0 V k2) 0)) [])) /\ (G = tagF /\ OkKy (ky (z0 V k1) (z0 V k2) 16))) (tgS V (V.ks (keyL k2)) (z0 V k2) [] 0) (G (keyL (ky (z0 V k1) (z0 V k2) 16)) []) /\ True
def zs (b c : Nat) : Value := .slice (some ⟨b, 0, none⟩) 0 c
theorem lawN6 (G : ae.GT) (V : VT) (k1 k2 : Nat -> Int) : (cE6 G V k1 k2 (.slice none 0 0) 0 oN6).map (fun r => (r.1, r.2.obl)) = some (.bool true, pE6 G V k1 k2) := by kernel_rfl
theorem lawZ6 (G : ae.GT) (V : VT) (k1 k2 : Nat -> Int) (c : Nat) : (cE6 G V k1 k2 (zs 0 c) 1 oN6).map (fun r => (r.1, r.2.obl)) = some (.bool true, pE6 G V k1 k2) := by kernel_rfl
theorem big6 (G : ae.GT) (V : VT) (k1 k2 : Nat -> Int) (n c : Nat) : (cE6 G V k1 k2 (sl 0 0 none n c) 1 [some true]).map (fun r => (r.1, r.2.obl)) = some (.bool true, (True /\ decide (nI n > 15) = true) /\ True) := by kernel_rfl
def x00 : Acts := ⟨fun _ => 0, fun _ => false, fun _ => 0, fun _ => 0, fun _ => 0, fun _ => []⟩
theorem ok00 {k : Nat -> Int} (h : OkKy k) : OkE x00 (VT0.ks (keyL k)) (z0 VT0 k) := ⟨h, gb.zM_ok _, rfl⟩
theorem pE6_ok {k1 k2 : Nat -> Int} (h1 : OkKy k1) (h2 : OkKy k2) : pE6 tagF VT0 k1 k2 := by
 have e1 := tgE (ky0 (z0 VT0 k1) (z0 VT0 k2)) (ok00 h1)
 have e2 := tgE (ky1 (z0 VT0 k1) (z0 VT0 k2)) (ok00 h2)
 exact ⟨e16 ⟨e16 ⟨⟨⟨⟨⟨trivial, rfl, gb.keyL_ok h1⟩, rfl, gb.keyL_ok h2⟩, rfl⟩, rfl⟩, rfl, by rw [ky0]; exact okKy16 h1⟩ e1, rfl, by rw [ky1]; exact okKy16 h2⟩ e2, trivial⟩
theorem okKy_wf {g : Nat -> Int} (h : ∀ j, j < 16 -> (Lit.int .u8 (g j)).wf = true) : OkKy g := fun j hj => by
 have h : IntKind.u8.min <= g j /\ g j <= IntKind.u8.max := by simpa [Lit.wf] using h j hj
 have e1 : IntKind.u8.min = 0 := by decide
 have e2 : IntKind.u8.max = 255 := by decide
 rw [e1, e2] at h; omega
theorem cmacPlays (W : World) (g0 : Nat -> Int) (w0 : ∀ j, j < 16 -> (Lit.int .u8 (g0 j)).wf = true) (g1 : Nat -> Int) (w1 : ∀ j, j < 16 -> (Lit.int .u8 (g1 j)).wf = true)
  (a2 : Option Addr) (n2 c2 : Nat) (s2 : (a2 = none /\ n2 = 0 /\ c2 = 0) ∨ ∃ b o, a2 = some ⟨b, o, none⟩ /\ n2 <= c2 /\ (c2 : Int) <= 9223372036854775807)
  (z2 : n2 = 0 ∨ ∃ b o, a2 = some ⟨b, o, none⟩ /\ (0 < n2 -> (Acts.of W b o).At W b o n2 /\ (Acts.of W b o).Ok n2)) :
  Calls Try.prog 6 #[.agg (rowV .u8 16 g0).toArray, .agg (rowV .u8 16 g1).toArray, .slice a2 n2 c2] W fun e w' => e = .returned (.bool true) /\ Below W.heap.size W w' := by
 have h1 := okKy_wf w0
 have h2 := okKy_wf w1
 by_cases hn0 : n2 = 0
 ·subst hn0
  rcases s2 with ⟨rfl, _, rfl⟩ | ⟨b, o, rfl, hc, _⟩
  ·exact ranG pg (KE_ok tagF VT0) (ρ := fun _ => ⟨0, 0, 0⟩) (lawN6 tagF VT0 g0 g1) (pE6_ok h1 h2) rfl (named_hs 0 _ _ W) (VL.cons (.of_flat rfl) (VL.cons (.of_flat rfl) (VL.cons (VR.same rfl) VL.nil)))
  ·exact ranG pg (KE_ok tagF VT0) (ρ := fun _ => ⟨b, o, 0⟩) (lawZ6 tagF VT0 g0 g1 c2) (pE6_ok h1 h2) rfl (named_hs 1 _ _ W) (VL.cons (.of_flat rfl) (VL.cons (.of_flat rfl) (VL.cons (VR.unread (a := ⟨b, o, none⟩) (by decide) rfl rfl hc) VL.nil)))
 ·rcases s2 with ⟨_, h, _⟩ | ⟨b, o, rfl, hc, _⟩
  ·exact absurd h hn0
  ·by_cases hb : n2 <= 15
   ·rcases z2 with h | ⟨b', o', e, h⟩
    ·exact absurd h hn0
    ·cases e
     obtain ⟨h3, h4⟩ := h (by omega)
     exact playsS h3 (fun i hi => by have := h4.len i hi; unfold Acts.by at this; unfold wd; rw [List.drop_zero]; exact this) hb hc h1 h2
   ·exact ranG pg (KE_ok tagF VT0) (ρ := fun _ => ⟨b, o, 0⟩) (big6 tagF VT0 g0 g1 n2 c2) ⟨⟨trivial, by simp only [nI, decide_eq_true_eq]; omega⟩, trivial⟩ rfl (named_hs 1 _ _ W) (VL.cons (.of_flat rfl) (VL.cons (.of_flat rfl) (VL.cons (VR.unread (a := ⟨b, o, none⟩) (by decide) rfl rfl hc) VL.nil)))
end
end po
end Go.Proofs.Ytkcngffpnnlmeaa
