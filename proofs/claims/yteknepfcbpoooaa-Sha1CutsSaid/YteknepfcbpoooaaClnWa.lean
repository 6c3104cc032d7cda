/- Read off the code by the clean reading. -/
import Derived.Test.YteknepfcbpoooaaClnQa
import Derived.Test.YteknepfcbpoooaaRows
import Derived.WalkKit
import Derived.ProofKit
import Derived.Below
import Derived.IntWalk
set_option linter.unusedVariables false
set_option linter.unusedSimpArgs false
set_option linter.deprecated false
set_option maxRecDepth 100000
namespace Go.Proofs.Yteknepfcbpoooaa
open Go.ChangeShapes Go.WideShapes Go.ChangeAt Go.RowKit Go.Cln
namespace sw
theorem pg : PG Try.prog := PG.of (by decide +kernel)
noncomputable section
def rotl (s : Nat) (x : Int) : Int := orI .u32 (IntKind.u32.wrap (x * 2 ^ s)) (x.fdiv (2 ^ (32 - s)))
def xr (a b : Int) : Int := xorI .u32 a b
def ptrs : List Value := [P0 0 0, P0 1 0, P0 2 0]
def hp (b g : Nat → Int) : Nat → Option Ob := fun i => match i with
  | 0 => some (.cells (.lit (rowV .u8 64 b)) 32)
  | 1 => some (.cells (.lit (rowV .u32 80 fun _ => 0)) 58)
  | 2 => some (.cells (.fam 80 fun j => .int .u32 (g j)) 58)
  | _ => none
def mkS (b g : Nat → Int) (t : List Value) : St := ⟨.agg (rowV .u8 64 b).toArray :: (ptrs ++ t), [], Tr.rebuild (hp b g) 3, 3, 0, [], fun _ => false, True, []⟩
def E (b g : Nat → Int) : St := mkS b g (junk :: .int .i64 16 :: (J 13 ++ U 27))
def R (b g : Nat → Int) (n : Int) : St := mkS b g (junk :: .int .i64 n :: (J 39 ++ U 1))
noncomputable def body : Code := loopB Try.prog 26 1
def vv (g : Nat → Int) (a b c d : Nat) : Int := rotl 1 (xr (xr (xr (g a) (g b)) (g c)) (g d))
def ix (n : Int) : Nat := 0 + n.toNat * 1
def wm (n : Int) (k : Int) : Int := IntKind.i64.wrap (n - k)
def runE (b g : Nat → Int) (rd : Option Nat) : Option (Exit × St) := (mk Try.prog Given.nothing 100).code 26 rd body { E b g with obl := True, orc := [] }
def runR (b g : Nat → Int) (n : Int) (rd : Option Nat) : Option (Exit × St) := (mk Try.prog Given.nothing 100).code 26 rd body { R b g n with obl := True, orc := List.replicate 11 (some true) }
def runX (b g : Nat → Int) (rd : Option Nat) : Option (Exit × St) := (mk Try.prog Given.nothing 100).code 26 rd body { R b g 80 with obl := True, orc := [] }
def inB (x : Int) : Prop := 0 ≤ x ∧ x < ((80 : Nat) : Int)
def pR (n : Int) : Prop := (((((((((((True ∧ decide (n < 80) = true) ∧ inB (wm n 3)) ∧ ix (wm n 3) < 80) ∧ inB (wm n 8)) ∧ ix (wm n 8) < 80) ∧ inB (wm n 14)) ∧ ix (wm n 14) < 80) ∧ inB (wm n 16)) ∧ ix (wm n 16) < 80) ∧ inB n) ∧ ix n + 1 ≤ 80)
theorem eE (b g : Nat → Int) (rd : Option Nat) : (runE b g rd).map (fun r => (r.1, r.2.obl)) = some (.normal, True) := by kernel_rfl
theorem eR (b g : Nat → Int) (n : Int) (rd : Option Nat) : (runR b g n rd).map (fun r => (r.1, r.2.obl)) = some (.normal, pR n) := by kernel_rfl
theorem eX (b g : Nat → Int) (rd : Option Nat) : (runX b g rd).map (fun r => (r.1, r.2.obl)) = some (.exit 2, True) := by kernel_rfl
def sE (b g : Nat → Int) (rd : Option Nat) : St := ((runE b g rd).map (·.2)).getD (E b g)
def sR (b g : Nat → Int) (n : Int) (rd : Option Nat) : St := ((runR b g n rd).map (·.2)).getD (R b g n)
def sX (b g : Nat → Int) (rd : Option Nat) : St := ((runX b g rd).map (·.2)).getD (R b g 80)
abbrev fam (g : Nat → Int) (o : Nat) (v : Int) : Ob := .cells (.fam 80 (famSet (fun j => .int .u32 (g j)) o [.int .u32 v])) 58
theorem hE2 (b g : Nat → Int) (rd : Option Nat) : (sE b g rd).heap.get 2 = some (fam g 16 (vv g 13 8 2 0)) := by kernel_rfl
theorem hR2 (b g : Nat → Int) (n : Int) (rd : Option Nat) : (sR b g n rd).heap.get 2 = some (fam g (ix n) (vv g (ix (wm n 3)) (ix (wm n 8)) (ix (wm n 14)) (ix (wm n 16)))) := by kernel_rfl
theorem tE (b g h : Nat → Int) (rd : Option Nat) : maskD (sE b g rd).tmps (R b h 17).tmps = (R b h 17).tmps.map (ren id) := by kernel_rfl
theorem tR (b g h : Nat → Int) (n : Int) (rd : Option Nat) : maskD (sR b g n rd).tmps (R b h (IntKind.i64.wrap (n + 1))).tmps = (R b h (IntKind.i64.wrap (n + 1))).tmps.map (ren id) := by kernel_rfl
end
end sw
end Go.Proofs.Yteknepfcbpoooaa
namespace Go.Proofs.Yteknepfcbpoooaa
open Go.ChangeShapes Go.WideShapes Go.ChangeAt Go.RowKit Go.Cln
namespace sw
noncomputable section
def wl (g : Nat → Int) : Nat → List Int
  | 0 => (List.range 16).map g
  | k + 1 => wl g k ++ [rotl 1 (xr (xr (xr ((wl g k).getD (13 + k) 0) ((wl g k).getD (8 + k) 0)) ((wl g k).getD (2 + k) 0)) ((wl g k).getD k 0))]
def W (g : Nat → Int) (j : Nat) : Int := (wl g 64).getD j 0
theorem wl_len (g : Nat → Int) : ∀ k, (wl g k).length = 16 + k
  | 0 => by simp [wl]
  | k + 1 => by simp [wl, wl_len g k]; omega
theorem wl_up (g : Nat → Int) {j k : Nat} (h : j < 16 + k) : ∀ m, k ≤ m → (wl g m).getD j 0 = (wl g k).getD j 0
  | 0, hm => by have : k = 0 := by omega
                subst this; rfl
  | m + 1, hm => by
    by_cases e : k = m + 1
    · subst e; rfl
    · rw [← wl_up g h m (by omega)]
      simp only [wl, List.getD_eq_getElem?_getD]
      rw [List.getElem?_append_left (by rw [wl_len]; omega)]
theorem W_low (g : Nat → Int) {j : Nat} (h : j < 16) : W g j = g j := by
  unfold W
  rw [wl_up g (k := 0) (by omega) 64 (by omega)]
  simp [wl, List.getD_eq_getElem?_getD, List.getElem?_map, List.getElem?_range h]
theorem W_step (g : Nat → Int) {k : Nat} (h : k < 64) : W g (16 + k) = rotl 1 (xr (xr (xr (W g (13 + k)) (W g (8 + k))) (W g (2 + k))) (W g k)) := by
  have e : ∀ j, j < 16 + k → W g j = (wl g k).getD j 0 := fun j hj => wl_up g hj 64 (by omega)
  rw [e (13 + k) (by omega), e (8 + k) (by omega), e (2 + k) (by omega), e k (by omega)]
  unfold W
  rw [wl_up g (k := k + 1) (by omega) 64 (by omega)]
  simp only [wl, List.getD_eq_getElem?_getD]
  rw [List.getElem?_append_right (by rw [wl_len]; omega), wl_len]
  simp
theorem view {b g g0 : Nat → Int} {t t0 : List Value} {s1 : St} {o2 : Ob} (hn : s1.next = 3) (hr : s1.roB = 0) (hro : s1.ro = []) (hhd : s1.hid = fun _ => false) (hd : s1.defers = [])
    (ht : maskD s1.tmps (mkS b g t).tmps = (mkS b g t).tmps.map (ren id)) (hto : (mkS b g t).tmps.all (okV (mkS b g t)) = true)
    (h0 : s1.heap.get 0 = hp b g 0) (h1 : s1.heap.get 1 = hp b g 1) (h2 : s1.heap.get 2 = some o2) (ho : ObV (mkS b g t) id o2 (.cells (.fam 80 fun j => .int .u32 (g j)) 58)) : View (mkS b g0 t0) s1 (mkS b g t) id := by
  refine View.plain (f := hp b g) (n := 3) rfl (by decide) rfl hn hr.symm hro.symm hhd.symm ht hto (by rw [hd]; rfl) rfl (fun i hi => ?_) (Nat.le_refl _) (fun i _ h => ?_) (fun i o hi h => ?_)
  · simp [okB, mkS, hi]
  · simp [St.may, mkS] at h
  · rcases lt3 hi with rfl | rfl | rfl
    · rw [h] at h0; exact ⟨o, h0, by simp only [hp, Option.some.injEq] at h; subst h; exact ObV.lit rfl rfl⟩
    · rw [h] at h1; exact ⟨o, h1, by simp only [hp, Option.some.injEq] at h; subst h; exact ObV.lit rfl rfl⟩
    · simp only [hp, Option.some.injEq] at h; subst h; exact ⟨o2, h2, ho⟩
theorem stepE (b g : Nat → Int) (rd : Option Nat) : Step Try.prog rd (E b g) body (E b g) (fun e s => e = .normal ∧ s = R b (fun j => if j = 16 then vv g 13 8 2 0 else g j) 17) :=
  Step.exec pg (GivenOk.nothing _) (eE b g rd) trivial (Nat.le_refl _) (view (by kernel_rfl) (by kernel_rfl) (by kernel_rfl) (by kernel_rfl) (by kernel_rfl) (tE b g _ rd) rfl (by kernel_rfl) (by kernel_rfl) (hE2 b g rd) (.put fun j hj => rfl))
theorem stepR (b g g0 : Nat → Int) (n : Int) (rd : Option Nat) (hp : pR n) : Step Try.prog rd (E b g0) body (R b g n) (fun e s => e = .normal ∧ s = R b (fun j => if j = ix n then vv g (ix (wm n 3)) (ix (wm n 8)) (ix (wm n 14)) (ix (wm n 16)) else g j) (IntKind.i64.wrap (n + 1))) :=
  Step.exec pg (GivenOk.nothing _) (eR b g n rd) hp (Nat.le_refl _) (view (by kernel_rfl) (by kernel_rfl) (by kernel_rfl) (by kernel_rfl) (by kernel_rfl) (tR b g _ n rd) rfl (by kernel_rfl) (by kernel_rfl) (hR2 b g n rd) (.put fun j hj => rfl))
theorem stepX (b g g0 g' : Nat → Int) (rd : Option Nat) (hg : ∀ j, j < 80 → g' j = g j) : Step Try.prog rd (E b g0) body (R b g 80) (fun e s => e = .exit 2 ∧ s = R b g' 80) :=
  Step.exec pg (GivenOk.nothing _) (eX b g rd) trivial (Nat.le_refl _) (view (by kernel_rfl) (by kernel_rfl) (by kernel_rfl) (by kernel_rfl) (by kernel_rfl) (by kernel_rfl) rfl (by kernel_rfl) (by kernel_rfl) (o2 := .cells (.fam 80 fun j => .int .u32 (g j)) 58) (by kernel_rfl) (.famEq hg))
def Inv (b g : Nat → Int) (k : Nat) (s : St) : Prop := (k = 65 ∧ s = E b g) ∨ ∃ (i : Nat) (h : Nat → Int), 17 ≤ i ∧ i ≤ 80 ∧ k = 80 - i ∧ (∀ j, j < i → h j = W g j) ∧ s = R b h (i : Int)
theorem wm_eq {i : Nat} {k : Int} (hk : 0 ≤ k) (hk2 : k ≤ 16) (hi : 16 ≤ i) (h : i ≤ 80) : wm (i : Int) k = (i : Int) - k := by
  unfold wm; rw [IntKind.wrap_i64]; omega
theorem loopOk (b g : Nat → Int) (rd : Option Nat) : CodeOk Try.prog rd (.loop body) (E b g) (.exit 2) (R b (W g) 80) := by
  refine CodeOk.of_step (Step.loop (Inv b g) ?_ 65 _ (.inl ⟨rfl, rfl⟩))
  rintro k s (⟨rfl, rfl⟩ | ⟨i, h, h1, h2, rfl, h3, rfl⟩)
  · refine (stepE b g rd).mono ?_
    rintro e s ⟨rfl, rfl⟩
    refine .inl ⟨rfl, 63, by omega, .inr ⟨17, _, by omega, by omega, rfl, fun j hj => ?_, rfl⟩⟩
    by_cases e : j = 16
    · subst e
      rw [if_pos rfl]
      have := W_step g (k := 0) (by omega)
      simp only [Nat.add_zero] at this
      rw [this, W_low g (by omega), W_low g (by omega), W_low g (by omega), W_low g (by omega)]
      rfl
    · rw [if_neg e, W_low g (by omega)]
  · by_cases e80 : i = 80
    · subst e80
      refine (stepX b h g (W g) rd fun j hj => (h3 j hj).symm).mono ?_
      rintro e s ⟨rfl, rfl⟩
      exact .inr ⟨(by intro x; cases x), rfl, rfl⟩
    · have hlt : i < 80 := by omega
      have e3 := wm_eq (i := i) (k := 3) (by omega) (by omega) (by omega) h2
      have e8 := wm_eq (i := i) (k := 8) (by omega) (by omega) (by omega) h2
      have e14 := wm_eq (i := i) (k := 14) (by omega) (by omega) (by omega) h2
      have e16 := wm_eq (i := i) (k := 16) (by omega) (by omega) (by omega) h2
      refine (stepR b h g (i : Int) rd ?_).mono ?_
      · unfold pR inB ix
        rw [e3, e8, e14, e16]
        refine ⟨⟨⟨⟨⟨⟨⟨⟨⟨⟨⟨trivial, ?_⟩, ?_⟩, ?_⟩, ?_⟩, ?_⟩, ?_⟩, ?_⟩, ?_⟩, ?_⟩, ?_⟩, ?_⟩ <;> first | (rw [decide_eq_true_eq]; omega) | omega
      · rintro e s ⟨rfl, rfl⟩
        have ew : IntKind.i64.wrap ((i : Int) + 1) = ((i + 1 : Nat) : Int) := by rw [IntKind.wrap_i64]; omega
        rw [ew]
        refine .inl ⟨rfl, 80 - (i + 1), by omega, .inr ⟨i + 1, _, by omega, by omega, rfl, fun j hj => ?_, rfl⟩⟩
        have ei : ix (i : Int) = i := by unfold ix; omega
        rw [ei]
        by_cases e : j = i
        · subst e
          rw [if_pos rfl]
          have := W_step g (k := j - 16) (by omega)
          rw [show 16 + (j - 16) = j by omega, show 13 + (j - 16) = j - 3 by omega, show 8 + (j - 16) = j - 8 by omega, show 2 + (j - 16) = j - 14 by omega] at this
          rw [this, e3, e8, e14, e16]
          have i3 : ix ((j : Int) - 3) = j - 3 := by unfold ix; omega
          have i8 : ix ((j : Int) - 8) = j - 8 := by unfold ix; omega
          have i14 : ix ((j : Int) - 14) = j - 14 := by unfold ix; omega
          have i16 : ix ((j : Int) - 16) = j - 16 := by unfold ix; omega
          rw [i3, i8, i14, i16]
          unfold vv
          rw [h3 _ (by omega), h3 _ (by omega), h3 _ (by omega), h3 _ (by omega)]
        · rw [if_neg e]; exact h3 j (by omega)
end
end sw
end Go.Proofs.Yteknepfcbpoooaa
namespace Go.Proofs.Yteknepfcbpoooaa
open Go.ChangeShapes Go.WideShapes Go.ChangeAt Go.RowKit Go.Cln
namespace sw
noncomputable section
def valI : Value → Int
  | .int _ n => n
  | _ => 0
def finH (S : St) (i : Nat) : Option Ob := match i with
  | 0 => S.heap.get 0
  | 1 => S.heap.get 1
  | 2 => (match S.heap.get 2 with
    | some (.cells (.fam _ f) _) => some (.cells (.fam 80 fun j => .int .u32 (W (fun j => valI (f j)) j)) 58)
    | o => o)
  | _ => none
def finW (S : St) : St := { S with tmps := S.tmps.take 4 ++ junk :: .int .i64 80 :: (J 39 ++ U 1), heap := Tr.rebuild (finH S) 3 }
def LW (f : FuncId) (s : St) : Option Go.Cln.Ask := if f == 26 then match getL s.tmps 5 with
  | .int _ _ => some ⟨⟨[4, 6, 7, 8, 9, 10, 11, 12, 13, 14, 15, 16, 17, 18], [2], []⟩, .exit 2, finW⟩
  | _ => none else none
def st8 (n b : Int) : Int := orI .u32 (IntKind.u32.wrap (n * 2 ^ 8)) (IntKind.u32.wrap b)
def num4 (a b c d : Int) : Int := st8 (st8 (st8 (st8 0 a) b) c) d
def w0 (b : Nat → Int) : List Value := rowV .u32 16 (fun i => num4 (b (4 * i)) (b (4 * i + 1)) (b (4 * i + 2)) (b (4 * i + 3))) ++ rowV .u32 64 (fun _ => 0)
def g0 (b : Nat → Int) (j : Nat) : Int := intAt (w0 b) j
def words (b : Nat → Int) : Nat → Int := W (g0 b)
def KW : Given := Given.asking Given.nothing Try.prog LW
def runW (b : Nat → Int) : Option (Value × St) := (mk Try.prog KW 200).call 26 [.agg (rowV .u8 64 b).toArray] (St.start 0 .leaf [])
theorem eW (b : Nat → Int) : (runW b).map (fun r => (r.1, r.2.obl)) = some (.agg (rowV .u32 80 (words b)).toArray, True ∧ ∀ rd, CodeOk Try.prog rd (.loop body) (E b (g0 b)) (.exit 2) (R b (words b) 80)) := by kernel_rfl
theorem callW (b : Nat → Int) (w : World) : Calls Try.prog 26 #[.agg (rowV .u8 64 b).toArray] w fun e w' => e = .returned (.agg (rowV .u32 80 (words b)).toArray) ∧ Below w.heap.size w w' :=
  ranF pg (GivenOk.asking (GivenOk.nothing _) LW) (eW b) ⟨trivial, fun rd => loopOk b (g0 b) rd⟩ rfl rfl w
end
end sw
end Go.Proofs.Yteknepfcbpoooaa
namespace Go.Proofs.Yteknepfcbpoooaa
open Go.ChangeShapes Go.WideShapes Go.ChangeAt Go.RowKit Go.Cln
namespace sw
noncomputable section
structure N5 where
  a : Int
  b : Int
  c : Int
  d : Int
  e : Int
def N5.row (n : N5) : List Value := [.int .u32 n.a, .int .u32 n.b, .int .u32 n.c, .int .u32 n.d, .int .u32 n.e]
def w32 (x : Int) : Int := IntKind.u32.wrap x
def mixC (b c d : Int) : Int := orI .u32 (andI .u32 b c) (andI .u32 (xorI .u32 IntKind.u32.max b) d)
def mixP (b c d : Int) : Int := xr (xr b c) d
def mixM (b c d : Int) : Int := orI .u32 (orI .u32 (andI .u32 b c) (andI .u32 b d)) (andI .u32 c d)
def mixQ (q : Nat) : Int → Int → Int → Int := match q with | 0 => mixC | 2 => mixM | _ => mixP
def conQ (q : Nat) : Int := match q with | 0 => 1518500249 | 1 => 1859775393 | 2 => 2400959708 | _ => 3395469782
def fnQ (q : Nat) : Value := match q with | 0 => .func (.func 36) #[] #[] | 2 => .func (.func 38) #[] #[] | _ => .func (.func 37) #[] #[]
def rQ (q : Nat) : List Value := [.int .i64 (20 * q + 20), fnQ q, .int .u32 (conQ q)]
def rnd (q : Nat) (n : N5) (w : Int) : N5 := ⟨w32 (w32 (w32 (w32 (rotl 5 n.a + mixQ q n.b n.c n.d) + n.e) + conQ q) + w), n.a, rotl 30 n.b, n.c, n.d⟩
def hB (s : N5) (b : Nat → Int) (w : Nat → Int) (n : N5) : Nat → Option Ob := fun i => match i with
  | 0 => some (.cells (.lit s.row) 31)
  | 1 => some (.cells (.lit (rowV .u8 64 b)) 32)
  | 2 => some (.cells (.lit (N5.row ⟨0, 0, 0, 0, 0⟩)) 31)
  | 3 => some (.cells (.fam 80 fun j => .int .u32 (w j)) 58)
  | 4 => some (.cells (.lit n.row) 31)
  | 5 => some (.cells (.lit (rQ 0 ++ rQ 1 ++ rQ 2 ++ rQ 3)) 64)
  | 6 => some (.cells (.lit (rQ 0)) 64)
  | 7 => some (.cells (.lit (rQ 1)) 64)
  | 8 => some (.cells (.lit (rQ 2)) 64)
  | 9 => some (.cells (.lit (rQ 3)) 64)
  | _ => none
def mkB (q : Nat) (s : N5) (b w0 w : Nat → Int) (n : N5) (i : Int) (x : Value) (t : List Value) : St :=
  ⟨.agg s.row.toArray :: .agg (rowV .u8 64 b).toArray :: P0 0 0 :: P0 1 0 :: P0 2 0 :: P0 3 0 :: P0 4 0 :: .int .i64 i :: undef :: P0 (6 + q) 0 :: x :: undef ::
    .agg (rowV .u8 64 b).toArray :: .agg (rowV .u32 80 w0).toArray :: .agg s.row.toArray :: .slice (some ⟨5, 0, none⟩) 4 4 :: .int .i64 4 :: .int .i64 q :: junk :: junk :: .agg (rQ q).toArray :: t,
    [], Tr.rebuild (hB s b w n) (7 + q), 7 + q, 0, [], fun _ => false, True, []⟩
def E0 (s : N5) (b w0 w : Nat → Int) (n : N5) : St := mkB 0 s b w0 w n 0 undef (U 56)
def RB (q : Nat) (s : N5) (b w0 w : Nat → Int) (n : N5) (i : Int) : St := mkB q s b w0 w n i junk (J 39 ++ .agg n.row.toArray :: junk :: junk :: (if q = 0 then undef else junk) :: U 13)
noncomputable def bodyB : Code := loopB Try.prog 14 1
def rnds (q : Nat) (w : Nat → Int) : Nat → N5 → N5
  | 0, n => n
  | k + 1, n => rnd q (rnds q w k n) (w (20 * q + k))
theorem obB {s : N5} {b w : Nat → Int} {n : N5} {i : Nat} {o : Ob} {st : St} (h : hB s b w n i = some o) : ObV st id o o := by
  match i, h with
  | 0, h => cases h; exact ObV.lit rfl rfl
  | 1, h => cases h; exact ObV.lit rfl rfl
  | 2, h => cases h; exact ObV.lit rfl rfl
  | 3, h => cases h; exact ObV.famEq fun _ _ => rfl
  | 4, h => cases h; exact ObV.lit rfl rfl
  | 5, h => cases h; exact ObV.lit rfl rfl
  | 6, h => cases h; exact ObV.lit rfl rfl
  | 7, h => cases h; exact ObV.lit rfl rfl
  | 8, h => cases h; exact ObV.lit rfl rfl
  | 9, h => cases h; exact ObV.lit rfl rfl
  | n + 10, h => cases h
theorem viewB {q : Nat} {s : N5} {b w0 w : Nat → Int} {n : N5} {i : Int} {x : Value} {t : List Value} {s0 s1 : St} (h0 : s0.next = 7 + q) (h0r : s0.roB = 0 ∧ s0.ro = []) (hq : q < 4) (hn : s1.next = 7 + q) (hr : s1.roB = 0) (hro : s1.ro = []) (hhd : s1.hid = fun _ => false) (hd : s1.defers = [])
    (ht : maskD s1.tmps (mkB q s b w0 w n i x t).tmps = (mkB q s b w0 w n i x t).tmps.map (ren id)) (hto : (mkB q s b w0 w n i x t).tmps.all (okV (mkB q s b w0 w n i x t)) = true)
    (hh : (List.range (7 + q)).map s1.heap.get = (List.range (7 + q)).map (hB s b w n)) : View s0 s1 (mkB q s b w0 w n i x t) id := by
  have get : ∀ j, j < 7 + q → s1.heap.get j = hB s b w n j := fun j hj => by
    have := congrArg (fun l => l[j]?) hh
    simpa [List.getElem?_map, List.getElem?_range hj] using this
  refine View.plain (f := hB s b w n) (n := 7 + q) rfl (by omega) rfl hn hr.symm hro.symm hhd.symm ht hto (by rw [hd]; rfl) rfl (fun j hj => ?_) (Nat.le_of_eq h0) (fun j _ h => ?_) (fun j o hj h => ⟨o, by rw [get j hj, h], obB h⟩)
  · simp [okB, mkB, hj]
  · simp [St.may, h0r.1, h0r.2] at h
def pB (q : Nat) (i : Int) : Prop := ((((True ∧ (i == 80) = false) ∧ (i == 20 * (q : Int) + 20) = false) ∧ (0 ≤ i ∧ i < ((80 : Nat) : Int))) ∧ ix i < 80)
def orB : List (Option Bool) := [some false, some false, none, none, none, none, none, some true, some true]
theorem step0 (s : N5) (b w0 w : Nat → Int) (n : N5) (rd : Option Nat) : Step Try.prog rd (E0 s b w0 w n) bodyB (E0 s b w0 w n) (fun e x => e = .normal ∧ x = RB 0 s b w0 w (rnd 0 n (w 0)) 1) :=
  Step.exec pg (GivenOk.nothing _) (n := 100) (f := 14) (p := True) (o := []) (by kernel_rfl) trivial (Nat.le_refl _) (viewB rfl ⟨rfl, rfl⟩ (by decide) (by kernel_rfl) (by kernel_rfl) (by kernel_rfl) (by kernel_rfl) (by kernel_rfl) (by kernel_rfl) (by kernel_rfl) (by kernel_rfl))
theorem stepR0 (s : N5) (b w0 w : Nat → Int) (n0 n : N5) (i : Int) (rd : Option Nat) (hp : pB 0 i) : Step Try.prog rd (E0 s b w0 w n0) bodyB (RB 0 s b w0 w n i) (fun e x => e = .normal ∧ x = RB 0 s b w0 w (rnd 0 n (w (ix i))) (IntKind.i64.wrap (i + 1))) :=
  Step.exec pg (GivenOk.nothing _) (n := 100) (f := 14) (p := pB 0 i) (o := orB) (by kernel_rfl) hp (Nat.le_refl _) (viewB rfl ⟨rfl, rfl⟩ (by decide) (by kernel_rfl) (by kernel_rfl) (by kernel_rfl) (by kernel_rfl) (by kernel_rfl) (by kernel_rfl) (by kernel_rfl) (by kernel_rfl))
theorem stepX0 (s : N5) (b w0 w : Nat → Int) (n0 n : N5) (rd : Option Nat) : Step Try.prog rd (E0 s b w0 w n0) bodyB (RB 0 s b w0 w n 20) (fun e x => e = .exit 1 ∧ x = RB 0 s b w0 w n 20) :=
  Step.exec pg (GivenOk.nothing _) (n := 100) (f := 14) (p := True) (o := []) (by kernel_rfl) trivial (Nat.le_refl _) (viewB rfl ⟨rfl, rfl⟩ (by decide) (by kernel_rfl) (by kernel_rfl) (by kernel_rfl) (by kernel_rfl) (by kernel_rfl) (by kernel_rfl) (by kernel_rfl) (by kernel_rfl))
theorem loop0 (s : N5) (b w0 w : Nat → Int) (n : N5) (rd : Option Nat) : CodeOk Try.prog rd (.loop bodyB) (E0 s b w0 w n) (.exit 1) (RB 0 s b w0 w (rnds 0 w 20 n) 20) := by
  refine CodeOk.of_step (Step.loop (fun k x => (k = 21 ∧ x = E0 s b w0 w n) ∨ ∃ j : Nat, 1 ≤ j ∧ j ≤ 20 ∧ k = 20 - j ∧ x = RB 0 s b w0 w (rnds 0 w j n) ((20 * 0 + j : Nat) : Int)) ?_ 21 _ (.inl ⟨rfl, rfl⟩))
  rintro k x (⟨rfl, rfl⟩ | ⟨j, hj0, hj, rfl, rfl⟩)
  · refine (step0 s b w0 w n rd).mono ?_
    rintro e x ⟨rfl, rfl⟩
    exact .inl ⟨rfl, 19, by omega, .inr ⟨1, by omega, by omega, rfl, rfl⟩⟩
  by_cases ej : j = 20
  · subst ej
    refine (stepX0 s b w0 w n _ rd).mono ?_
    rintro e x ⟨rfl, rfl⟩
    exact .inr ⟨(by intro x; cases x), rfl, rfl⟩
  · refine (stepR0 s b w0 w n _ _ rd ?_).mono ?_
    · unfold pB ix
      refine ⟨⟨⟨⟨trivial, ?_⟩, ?_⟩, ?_⟩, ?_⟩ <;> first | (rw [beq_eq_false_iff_ne]; omega) | omega
    · rintro e x ⟨rfl, rfl⟩
      have ew : IntKind.i64.wrap (((20 * 0 + j : Nat) : Int) + 1) = ((20 * 0 + (j + 1) : Nat) : Int) := by rw [IntKind.wrap_i64]; omega
      have ei : ix ((20 * 0 + j : Nat) : Int) = 20 * 0 + j := by unfold ix; omega
      rw [ew, ei]
      exact .inl ⟨rfl, 20 - (j + 1), by omega, .inr ⟨j + 1, by omega, by omega, rfl, rfl⟩⟩
theorem stepR1 (s : N5) (b w0 w : Nat → Int) (n0 n : N5) (i : Int) (rd : Option Nat) (hp : pB 1 i) : Step Try.prog rd (RB 1 s b w0 w n0 20) bodyB (RB 1 s b w0 w n i) (fun e x => e = .normal ∧ x = RB 1 s b w0 w (rnd 1 n (w (ix i))) (IntKind.i64.wrap (i + 1))) :=
  Step.exec pg (GivenOk.nothing _) (n := 100) (f := 14) (p := pB 1 i) (o := orB) (by kernel_rfl) hp (Nat.le_refl _) (viewB rfl ⟨rfl, rfl⟩ (by decide) (by kernel_rfl) (by kernel_rfl) (by kernel_rfl) (by kernel_rfl) (by kernel_rfl) (by kernel_rfl) (by kernel_rfl) (by kernel_rfl))
theorem stepX1 (s : N5) (b w0 w : Nat → Int) (n0 n : N5) (rd : Option Nat) : Step Try.prog rd (RB 1 s b w0 w n0 20) bodyB (RB 1 s b w0 w n 40) (fun e x => e = .exit 1 ∧ x = RB 1 s b w0 w n 40) :=
  Step.exec pg (GivenOk.nothing _) (n := 100) (f := 14) (p := True) (o := []) (by kernel_rfl) trivial (Nat.le_refl _) (viewB rfl ⟨rfl, rfl⟩ (by decide) (by kernel_rfl) (by kernel_rfl) (by kernel_rfl) (by kernel_rfl) (by kernel_rfl) (by kernel_rfl) (by kernel_rfl) (by kernel_rfl))
theorem loop1 (s : N5) (b w0 w : Nat → Int) (n : N5) (rd : Option Nat) : CodeOk Try.prog rd (.loop bodyB) (RB 1 s b w0 w n 20) (.exit 1) (RB 1 s b w0 w (rnds 1 w 20 n) 40) := by
  refine CodeOk.of_step (Step.loop (fun k x => ∃ j : Nat, j ≤ 20 ∧ k = 20 - j ∧ x = RB 1 s b w0 w (rnds 1 w j n) ((20 * 1 + j : Nat) : Int)) ?_ 20 _ ⟨0, by omega, rfl, rfl⟩)
  rintro k x ⟨j, hj, rfl, rfl⟩
  by_cases ej : j = 20
  · subst ej
    refine (stepX1 s b w0 w n _ rd).mono ?_
    rintro e x ⟨rfl, rfl⟩
    exact .inr ⟨(by intro x; cases x), rfl, rfl⟩
  · refine (stepR1 s b w0 w n _ _ rd ?_).mono ?_
    · unfold pB ix
      refine ⟨⟨⟨⟨trivial, ?_⟩, ?_⟩, ?_⟩, ?_⟩ <;> first | (rw [beq_eq_false_iff_ne]; omega) | omega
    · rintro e x ⟨rfl, rfl⟩
      have ew : IntKind.i64.wrap (((20 * 1 + j : Nat) : Int) + 1) = ((20 * 1 + (j + 1) : Nat) : Int) := by rw [IntKind.wrap_i64]; omega
      have ei : ix ((20 * 1 + j : Nat) : Int) = 20 * 1 + j := by unfold ix; omega
      rw [ew, ei]
      exact .inl ⟨rfl, 20 - (j + 1), by omega, ⟨j + 1, by omega, rfl, rfl⟩⟩
theorem stepR2 (s : N5) (b w0 w : Nat → Int) (n0 n : N5) (i : Int) (rd : Option Nat) (hp : pB 2 i) : Step Try.prog rd (RB 2 s b w0 w n0 40) bodyB (RB 2 s b w0 w n i) (fun e x => e = .normal ∧ x = RB 2 s b w0 w (rnd 2 n (w (ix i))) (IntKind.i64.wrap (i + 1))) :=
  Step.exec pg (GivenOk.nothing _) (n := 100) (f := 14) (p := pB 2 i) (o := orB) (by kernel_rfl) hp (Nat.le_refl _) (viewB rfl ⟨rfl, rfl⟩ (by decide) (by kernel_rfl) (by kernel_rfl) (by kernel_rfl) (by kernel_rfl) (by kernel_rfl) (by kernel_rfl) (by kernel_rfl) (by kernel_rfl))
theorem stepX2 (s : N5) (b w0 w : Nat → Int) (n0 n : N5) (rd : Option Nat) : Step Try.prog rd (RB 2 s b w0 w n0 40) bodyB (RB 2 s b w0 w n 60) (fun e x => e = .exit 1 ∧ x = RB 2 s b w0 w n 60) :=
  Step.exec pg (GivenOk.nothing _) (n := 100) (f := 14) (p := True) (o := []) (by kernel_rfl) trivial (Nat.le_refl _) (viewB rfl ⟨rfl, rfl⟩ (by decide) (by kernel_rfl) (by kernel_rfl) (by kernel_rfl) (by kernel_rfl) (by kernel_rfl) (by kernel_rfl) (by kernel_rfl) (by kernel_rfl))
theorem loop2 (s : N5) (b w0 w : Nat → Int) (n : N5) (rd : Option Nat) : CodeOk Try.prog rd (.loop bodyB) (RB 2 s b w0 w n 40) (.exit 1) (RB 2 s b w0 w (rnds 2 w 20 n) 60) := by
  refine CodeOk.of_step (Step.loop (fun k x => ∃ j : Nat, j ≤ 20 ∧ k = 20 - j ∧ x = RB 2 s b w0 w (rnds 2 w j n) ((20 * 2 + j : Nat) : Int)) ?_ 20 _ ⟨0, by omega, rfl, rfl⟩)
  rintro k x ⟨j, hj, rfl, rfl⟩
  by_cases ej : j = 20
  · subst ej
    refine (stepX2 s b w0 w n _ rd).mono ?_
    rintro e x ⟨rfl, rfl⟩
    exact .inr ⟨(by intro x; cases x), rfl, rfl⟩
  · refine (stepR2 s b w0 w n _ _ rd ?_).mono ?_
    · unfold pB ix
      refine ⟨⟨⟨⟨trivial, ?_⟩, ?_⟩, ?_⟩, ?_⟩ <;> first | (rw [beq_eq_false_iff_ne]; omega) | omega
    · rintro e x ⟨rfl, rfl⟩
      have ew : IntKind.i64.wrap (((20 * 2 + j : Nat) : Int) + 1) = ((20 * 2 + (j + 1) : Nat) : Int) := by rw [IntKind.wrap_i64]; omega
      have ei : ix ((20 * 2 + j : Nat) : Int) = 20 * 2 + j := by unfold ix; omega
      rw [ew, ei]
      exact .inl ⟨rfl, 20 - (j + 1), by omega, ⟨j + 1, by omega, rfl, rfl⟩⟩
theorem stepR3 (s : N5) (b w0 w : Nat → Int) (n0 n : N5) (i : Int) (rd : Option Nat) (hp : pB 3 i) : Step Try.prog rd (RB 3 s b w0 w n0 60) bodyB (RB 3 s b w0 w n i) (fun e x => e = .normal ∧ x = RB 3 s b w0 w (rnd 3 n (w (ix i))) (IntKind.i64.wrap (i + 1))) :=
  Step.exec pg (GivenOk.nothing _) (n := 100) (f := 14) (p := pB 3 i) (o := orB) (by kernel_rfl) hp (Nat.le_refl _) (viewB rfl ⟨rfl, rfl⟩ (by decide) (by kernel_rfl) (by kernel_rfl) (by kernel_rfl) (by kernel_rfl) (by kernel_rfl) (by kernel_rfl) (by kernel_rfl) (by kernel_rfl))
theorem stepX3 (s : N5) (b w0 w : Nat → Int) (n0 n : N5) (rd : Option Nat) : Step Try.prog rd (RB 3 s b w0 w n0 60) bodyB (RB 3 s b w0 w n 80) (fun e x => e = .exit 0 ∧ x = RB 3 s b w0 w n 80) :=
  Step.exec pg (GivenOk.nothing _) (n := 100) (f := 14) (p := True) (o := []) (by kernel_rfl) trivial (Nat.le_refl _) (viewB rfl ⟨rfl, rfl⟩ (by decide) (by kernel_rfl) (by kernel_rfl) (by kernel_rfl) (by kernel_rfl) (by kernel_rfl) (by kernel_rfl) (by kernel_rfl) (by kernel_rfl))
theorem loop3 (s : N5) (b w0 w : Nat → Int) (n : N5) (rd : Option Nat) : CodeOk Try.prog rd (.loop bodyB) (RB 3 s b w0 w n 60) (.exit 0) (RB 3 s b w0 w (rnds 3 w 20 n) 80) := by
  refine CodeOk.of_step (Step.loop (fun k x => ∃ j : Nat, j ≤ 20 ∧ k = 20 - j ∧ x = RB 3 s b w0 w (rnds 3 w j n) ((20 * 3 + j : Nat) : Int)) ?_ 20 _ ⟨0, by omega, rfl, rfl⟩)
  rintro k x ⟨j, hj, rfl, rfl⟩
  by_cases ej : j = 20
  · subst ej
    refine (stepX3 s b w0 w n _ rd).mono ?_
    rintro e x ⟨rfl, rfl⟩
    exact .inr ⟨(by intro x; cases x), rfl, rfl⟩
  · refine (stepR3 s b w0 w n _ _ rd ?_).mono ?_
    · unfold pB ix
      refine ⟨⟨⟨⟨trivial, ?_⟩, ?_⟩, ?_⟩, ?_⟩ <;> first | (rw [beq_eq_false_iff_ne]; omega) | omega
    · rintro e x ⟨rfl, rfl⟩
      have ew : IntKind.i64.wrap (((20 * 3 + j : Nat) : Int) + 1) = ((20 * 3 + (j + 1) : Nat) : Int) := by rw [IntKind.wrap_i64]; omega
      have ei : ix ((20 * 3 + j : Nat) : Int) = 20 * 3 + j := by unfold ix; omega
      rw [ew, ei]
      exact .inl ⟨rfl, 20 - (j + 1), by omega, ⟨j + 1, by omega, rfl, rfl⟩⟩
end
end sw
end Go.Proofs.Yteknepfcbpoooaa
namespace Go.Proofs.Yteknepfcbpoooaa
open Go.ChangeShapes Go.WideShapes Go.ChangeAt Go.RowKit Go.Cln
namespace sw
noncomputable section
def n5Of : Option Ob → N5
  | some (.cells (.lit [.int _ a, .int _ b, .int _ c, .int _ d, .int _ e]) _) => ⟨a, b, c, d, e⟩
  | _ => ⟨0, 0, 0, 0, 0⟩
def wOf : Option Ob → Nat → Int
  | some (.cells (.fam _ f) _) => fun j => valI (f j)
  | _ => fun _ => 0
def nFin (q : Nat) (S : St) : N5 := rnds q (wOf (S.heap.get 3)) 20 (n5Of (S.heap.get 4))
def finHB (q : Nat) (S : St) (i : Nat) : Option Ob := match i with
  | 4 => some (.cells (.lit (nFin q S).row) 31)
  | i => S.heap.get i
def finB (q : Nat) (S : St) : St := { S with
  tmps := S.tmps.take 7 ++ .int .i64 (20 * q + 20) :: undef :: P0 (6 + q) 0 :: junk :: undef :: ((S.tmps.drop 12).take 9 ++ (J 39 ++ .agg (nFin q S).row.toArray :: junk :: junk :: (if q = 0 then undef else junk) :: U 13)),
  heap := Tr.rebuild (finHB q S) (7 + q) }
def exB (q : Nat) : Exit := match q with | 3 => .exit 0 | _ => .exit 1
def LB (f : FuncId) (s : St) : Option Go.Cln.Ask := if f == 14 then match getL s.tmps 9, getL s.tmps 64, getL s.tmps 17 with
  | .pointer _, .tuple _, .int _ q => some ⟨⟨if q = 0 then [18, 19] else [10, 18, 19] ++ (List.range 39).map (· + 21) ++ [61, 62, 63], [3], []⟩, exB q.toNat, finB q.toNat⟩
  | _, _, _ => none else none
def F26 (f : FuncId) (args : List Value) : Option Value := if f == 26 then match args with
  | [.agg x] => if x.toList.length = 64 ∧ x.toList.all (isKind .u8) = true then some (.agg (rowV .u32 80 (words (intAt x.toList))).toArray) else none
  | _ => none else none
theorem F26_ok : GivenOk Try.prog (Given.calls F26) := GivenOk.calls fun f args v h => by
  unfold F26 at h
  split at h
  · rename_i hf
    split at h
    · rename_i x
      split at h
      · rename_i hc
        simp only [Option.some.injEq] at h
        subst h
        have hf' : f = 26 := by simpa using hf
        subst hf'
        have e : x = (rowV .u8 64 (intAt x.toList)).toArray := by rw [rowV_of hc.1 hc.2]
        refine ⟨?_, rfl, fun W => ?_⟩
        · rw [e]; rfl
        · have := callW (intAt x.toList) W
          rw [← e] at this; exact this
      · cases h
    · cases h
  · cases h
def KB : Given := Given.asking (Given.calls F26) Try.prog LB
def bb (b : Nat → Int) : Nat → Int := intAt (rowV .u8 64 b)
def ww (b : Nat → Int) : Nat → Int := intAt (rowV .u32 80 (words (bb b)))
def n1 (s : N5) (b : Nat → Int) : N5 := rnds 0 (ww b) 20 s
def n2 (s : N5) (b : Nat → Int) : N5 := rnds 1 (ww b) 20 (n1 s b)
def n3 (s : N5) (b : Nat → Int) : N5 := rnds 2 (ww b) 20 (n2 s b)
def n4 (s : N5) (b : Nat → Int) : N5 := rnds 3 (ww b) 20 (n3 s b)
def add5 (s n : N5) : N5 := ⟨w32 (s.a + n.a), w32 (s.b + n.b), w32 (s.c + n.c), w32 (s.d + n.d), w32 (s.e + n.e)⟩
def blk (s : N5) (b : Nat → Int) : N5 := add5 s (n4 s b)
def runBlk (s : N5) (b : Nat → Int) : Option (Value × St) := (mk Try.prog KB 300).call 14 [.agg s.row.toArray, .agg (rowV .u8 64 b).toArray] (St.start 0 .leaf [])
theorem eB (s : N5) (b : Nat → Int) : (runBlk s b).map (fun r => (r.1, r.2.obl)) = some (.agg (blk s b).row.toArray,
    ((((True ∧ ∀ rd, CodeOk Try.prog rd (.loop bodyB) (E0 s b (words (bb b)) (ww b) s) (.exit 1) (RB 0 s b (words (bb b)) (ww b) (n1 s b) 20)) ∧
      ∀ rd, CodeOk Try.prog rd (.loop bodyB) (RB 1 s b (words (bb b)) (ww b) (n1 s b) 20) (.exit 1) (RB 1 s b (words (bb b)) (ww b) (n2 s b) 40)) ∧
      ∀ rd, CodeOk Try.prog rd (.loop bodyB) (RB 2 s b (words (bb b)) (ww b) (n2 s b) 40) (.exit 1) (RB 2 s b (words (bb b)) (ww b) (n3 s b) 60)) ∧
      ∀ rd, CodeOk Try.prog rd (.loop bodyB) (RB 3 s b (words (bb b)) (ww b) (n3 s b) 60) (.exit 0) (RB 3 s b (words (bb b)) (ww b) (n4 s b) 80))) := by kernel_rfl
theorem callB (s : N5) (b : Nat → Int) (w : World) : Calls Try.prog 14 #[.agg s.row.toArray, .agg (rowV .u8 64 b).toArray] w fun e w' => e = .returned (.agg (blk s b).row.toArray) ∧ Below w.heap.size w w' :=
  ranF pg (GivenOk.asking F26_ok LB) (eB s b) ⟨⟨⟨⟨trivial, fun rd => loop0 s b _ _ s rd⟩, fun rd => loop1 s b _ _ _ rd⟩, fun rd => loop2 s b _ _ _ rd⟩, fun rd => loop3 s b _ _ _ rd⟩ rfl rfl w
end
end sw
end Go.Proofs.Yteknepfcbpoooaa
namespace Go.Proofs.Yteknepfcbpoooaa
open Go.ChangeShapes Go.WideShapes Go.ChangeAt Go.RowKit Go.Cln
namespace sw
noncomputable section
def n5L (l : List Value) : N5 := ⟨intAt l 0, intAt l 1, intAt l 2, intAt l 3, intAt l 4⟩
def F14 (f : FuncId) (args : List Value) : Option Value := if f == 14 then match args with
  | [.agg s, .agg x] => if (s.toList.length = 5 ∧ s.toList.all (isKind .u32) = true) ∧ x.toList.length = 64 ∧ x.toList.all (isKind .u8) = true then some (.agg (blk (n5L s.toList) (intAt x.toList)).row.toArray) else none
  | _ => none else none
theorem n5L_row {l : List Value} (h : l.length = 5) (hk : l.all (isKind .u32) = true) : (n5L l).row = l := by
  have := rowV_of h hk
  rw [← this]
  rfl
theorem F14_ok : GivenOk Try.prog (Given.calls F14) := GivenOk.calls fun f args v h => by
  unfold F14 at h
  split at h
  · rename_i hf
    split at h
    · rename_i s x
      split at h
      · rename_i hc
        simp only [Option.some.injEq] at h
        subst h
        have hf' : f = 14 := by simpa using hf
        subst hf'
        obtain ⟨⟨h1, h2⟩, h3, h4⟩ := hc
        have e1 : s = (n5L s.toList).row.toArray := by rw [n5L_row h1 h2]
        have e2 : x = (rowV .u8 64 (intAt x.toList)).toArray := by rw [rowV_of h3 h4]
        refine ⟨?_, rfl, fun W => ?_⟩
        · rw [e1, e2]; rfl
        · have := callB (n5L s.toList) (intAt x.toList) W
          rw [← e1, ← e2] at this; exact this
      · cases h
    · cases h
  · cases h
theorem knownRuns : ((mk Try.prog (Given.calls F14) 300).call 10 [] (St.start 0 .leaf [])).map (fun r => (r.1, r.2.obl)) = some (.bool true, True) := by kernel_rfl
theorem known (W : World) : Calls Try.prog 10 #[] W fun e w' => e = .returned (.bool true) ∧ Below W.heap.size W w' := ran pg F14_ok knownRuns trivial rfl rfl W
end
end sw
end Go.Proofs.Yteknepfcbpoooaa
