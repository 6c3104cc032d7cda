/- Read off the code by the clean reading. -/
import Derived.Test.YtkcngffpnnlmeaaClnEd
import Derived.Test.YtkcngffpnnlmeaaClnQc
set_option linter.unusedVariables false
set_option linter.unusedSimpArgs false
set_option linter.deprecated false
set_option maxRecDepth 100000
namespace Go.Proofs.Ytkcngffpnnlmeaa
open Go.ChangeShapes Go.WideShapes Go.ChangeAt Go.RowKit Go.Cln
namespace ae
noncomputable section
abbrev LV := List Value
structure TT where
 ky : LV -> LV -> Nat -> Int
 sb : List Int -> LV -> Nat -> Int
 sh : LV -> Nat -> Int
 mx : LV -> Nat -> Int
 ps : List Int -> LV -> Prop
def T0 : TT := ⟨fun x y => keyF (intAt x) (intAt y), fun B x => subF B (intAt x), fun x => shiF (intAt x), fun x => mixF (intAt x), fun B x => pSub B (intAt x) 16⟩
def FX (T : TT) (f : FuncId) (args : List Value) (s : St) : Option Inst := match args with
 | [.agg x, .agg y] => if is16 x && is16 y then
   (if f == 66 then some (flI [.agg x, .agg y] (row16 (T.ky x.toList y.toList)) (T = T0))
   else if f == 68 then some (flI [.agg x, .agg y] (row16 (T.sh x.toList)) (T = T0))
   else if f == 69 then some (flI [.agg x, .agg y] (row16 (T.mx x.toList)) (T = T0)) else none) else none
 | [.pointer (some ⟨t, 0, none⟩), .agg x, .agg y] => if f == 67 then (if is16 x && is16 y then match s.heap.get t with
  | some (.cells (.ints .u8 B) _) => some ⟨[(t, 0)], 1, hB B, [P0 0 0, .agg x, .agg y], row16 (T.sb B x.toList), hB B ++ [none, none, none], T = T0 /\ T.ps B x.toList⟩
  | _ => none else none) else none
 | _ => none
theorem FX_ok (T : TT) (f : FuncId) (args : List Value) (s : St) (i : Inst) (h : FX T f args s = some i) : Fits s i args /\ (i.ask -> CallOk Try.prog f i.args i.s0 i.val i.s1) := by
 unfold FX at h
 split at h
 ·rename_i x y
  split at h
  ·rename_i hc
   rw [Bool.and_eq_true] at hc
   have ex := is16_row hc.1
   have ey := is16_row hc.2
   have hfl : ([.agg x, .agg y] : List Value).all flat1 = true := by rw [ex, ey]; rfl
   split at h
   ·rename_i hf
    have hf' : f = 66 := by simpa using hf
    subst hf'; cases h
    refine flI_ok hfl rfl fun hT W => ?_
    subst hT
    have := ranF pg F1_ok.given (eK (intAt x.toList) (intAt y.toList)) trivial rfl rfl W
    rw [← ex, ← ey] at this; exact this
   ·split at h
    ·rename_i hf
     have hf' : f = 68 := by simpa using hf
     subst hf'; cases h
     refine flI_ok hfl rfl fun hT W => ?_
     subst hT
     have := ranF pg F1_ok.given (eS (intAt x.toList) (intAt y.toList)) trivial rfl rfl W
     rw [← ex, ← ey] at this; exact this
    ·split at h
     ·rename_i hf
      have hf' : f = 69 := by simpa using hf
      subst hf'; cases h
      refine flI_ok hfl rfl fun hT W => ?_
      subst hT
      have := ranF pg F1_ok.given (eM (intAt x.toList) (intAt y.toList)) trivial rfl rfl W
      rw [← ex, ← ey] at this; exact this
     ·cases h
  ·cases h
 ·rename_i t x y
  split at h
  ·rename_i hf
   have hf' : f = 67 := by simpa using hf
   subst hf'
   split at h
   ·rename_i hc
    rw [Bool.and_eq_true] at hc
    have ex := is16_row hc.1
    have ey := is16_row hc.2
    split at h
    ·rename_i B tb hb
     cases h
     refine ⟨fit_whole hb rfl rfl rfl (by rw [ex, ey]; rfl), fun ha => ?_⟩
     obtain ⟨rfl, ha⟩ := ha
     have := frame_by pg (GivenOk.nothing _) _ (runSub B (intAt x.toList) (intAt y.toList)) ha (by rfl) rfl
     unfold row16 at this
     rw [← ex, ← ey] at this; exact this
    ·cases h
   ·cases h
  ·cases h
 ·cases h
def KM (T : TT) : Given := Given.frames K3 (FX T)
theorem KM_ok (T : TT) : GivenOk Try.prog (KM T) := F3_ok.given.frames (FX_ok T)
def kRow (ks : Nat -> Int) (n : Nat) : LV := rowV .u8 16 fun j => ks (16 * n + j)
def R16 (f : Nat -> Int) : LV := rowV .u8 16 f
def stL (T : TT) (B : List Int) (ks b : Nat -> Int) : Nat -> LV
 | 0 => R16 (T.ky (R16 b) (kRow ks 0))
 | n + 1 => R16 (T.ky (R16 (T.mx (R16 (T.sh (R16 (T.sb B (stL T B ks b n))))))) (kRow ks (n + 1)))
def mkL (T : TT) (B : List Int) (ks b : Nat -> Int) : Nat -> Int := T.ky (R16 (T.sh (R16 (T.sb B (stL T B ks b 9))))) (kRow ks 10)
def pM (T : TT) (B : List Int) (ks b : Nat -> Int) : Nat -> Prop
 | 0 => True /\ T = T0
 | n + 1 => (((pM T B ks b n /\ (T = T0 /\ T.ps B (stL T B ks b n))) /\ T = T0) /\ T = T0) /\ T = T0
def pM' (T : TT) (B : List Int) (ks b : Nat -> Int) : Prop := ((pM T B ks b 9 /\ (T = T0 /\ T.ps B (stL T B ks b 9))) /\ T = T0) /\ T = T0
def hC (ks : Nat -> Int) : List (Option Ob) := [some (.cells (.lit (rowV .u8 176 ks ++ [.bool true])) 84)]
def hC' (ks : Nat -> Int) : List (Option Ob) := hC ks ++ List.replicate 86 none
theorem runMk (T : TT) (ks b : Nat -> Int) : ((mk Try.prog (KM T) 200).call 22 [P0 0 0, row16 b] (smSt 1 (hC ks) [])).map (fun r => (r.1, r.2.obl, r.2.next, keepL (true :: List.replicate 86 false) r.2.heap.get 0)) = some (.tuple #[row16 (mkL T BOX ks b), .int .i64 0], pM' T BOX ks b, (hC' ks).length, hC' ks) := by kernel_rfl
def stF (B : List Int) (ks b : Nat -> Int) : Nat -> Nat -> Int
 | 0 => keyF b (fun j => ks (16 * 0 + j))
 | n + 1 => keyF (mixF (shiF (subF B (stF B ks b n)))) (fun j => ks (16 * (n + 1) + j))
def mkF (B : List Int) (ks b : Nat -> Int) : Nat -> Int := keyF (shiF (subF B (stF B ks b 9))) (fun j => ks (16 * 10 + j))
theorem at16 {f : Nat -> Int} {j : Nat} (h : j < 16) : intAt (R16 f) j = f j := intAt_row h
theorem R16_congr {f g : Nat -> Int} (h : ∀ j, j < 16 -> f j = g j) : R16 f = R16 g := rowV_congr h
theorem key_at (f g : Nat -> Int) : R16 (keyF (intAt (R16 f)) (intAt (R16 g))) = R16 (keyF f g) := R16_congr fun j h => by unfold keyF; rw [at16 h, at16 h]
theorem shi_at (f : Nat -> Int) : R16 (shiF (intAt (R16 f))) = R16 (shiF f) := R16_congr fun j h => by unfold shiF; rw [at16 (by omega)]
theorem mix_at (f : Nat -> Int) : R16 (mixF (intAt (R16 f))) = R16 (mixF f) := R16_congr fun j h => by unfold mixF; rw [at16 h, at16 (by omega), at16 (by omega), at16 (by omega), at16 (by omega), at16 (by omega)]
theorem sub_at (B : List Int) (f : Nat -> Int) : R16 (subF B (intAt (R16 f))) = R16 (subF B f) := R16_congr fun j h => by unfold subF; rw [at16 h]
theorem stL_eq (B : List Int) (ks b : Nat -> Int) : ∀ n, stL T0 B ks b n = R16 (stF B ks b n)
 | 0 => key_at b _
 | n + 1 => by
  show R16 (keyF (intAt (R16 (mixF (intAt (R16 (shiF (intAt (R16 (subF B (intAt (stL T0 B ks b n))))))))))) (intAt (R16 fun j => ks (16 * (n + 1) + j)))) = _
  rw [stL_eq B ks b n, sub_at, shi_at, mix_at, key_at]; rfl
theorem mkL_eq (B : List Int) (ks b : Nat -> Int) : row16 (mkL T0 B ks b) = row16 (mkF B ks b) := by
 have : R16 (mkL T0 B ks b) = R16 (mkF B ks b) := by
  show R16 (keyF (intAt (R16 (shiF (intAt (R16 (subF B (intAt (stL T0 B ks b 9)))))))) (intAt (R16 fun j => ks (16 * 10 + j)))) = _
  rw [stL_eq B ks b 9, sub_at, shi_at, key_at]; rfl
 exact congrArg (fun l => Value.agg l.toArray) this
def B16 (f : Nat -> Int) : Prop := ∀ j, j < 16 -> 0 <= f j /\ f j < 256
theorem w8_in (x : Int) : 0 <= IntKind.u8.wrap x /\ IntKind.u8.wrap x < 256 := by rw [IntKind.wrap_u8]; omega
theorem xr8_in (a b : Int) : 0 <= xr8 a b /\ xr8 a b < 256 := w8_in _
theorem stF_in (B : List Int) (ks b : Nat -> Int) : ∀ n, B16 (stF B ks b n)
 | 0 => fun j _ => xr8_in _ _
 | n + 1 => fun j _ => xr8_in _ _
theorem mkF_in (B : List Int) (ks b : Nat -> Int) : B16 (mkF B ks b) := fun j _ => xr8_in _ _
theorem pM_ok {B : List Int} (hB : B.length = 256) (ks b : Nat -> Int) : ∀ n, pM T0 B ks b n
 | 0 => ⟨trivial, rfl⟩
 | n + 1 => ⟨⟨⟨⟨pM_ok hB ks b n, rfl, by
     show pSub B (intAt (stL T0 B ks b n)) 16
     rw [stL_eq]; exact pSub_ok hB 16 fun i hi => by rw [at16 hi]; exact stF_in B ks b n i hi⟩, rfl⟩, rfl⟩, rfl⟩
theorem box_len : BOX.length = 256 := by decide +kernel
theorem mk_ok (ks b : Nat -> Int) : CallOk Try.prog 22 [P0 0 0, row16 b] (smSt 1 (hC ks) []) (.tuple #[row16 (mkF BOX ks b), .int .i64 0]) (smSt 1 (hC' ks) []) := by
 have := frame_by pg (KM_ok T0) _ (runMk T0 ks b) ⟨⟨⟨pM_ok box_len ks b 9, rfl, by
   show pSub BOX (intAt (stL T0 BOX ks b 9)) 16
   rw [stL_eq]; exact pSub_ok box_len 16 fun i hi => by rw [at16 hi]; exact stF_in BOX ks b 9 i hi⟩, rfl⟩, rfl⟩ (by rfl) rfl
 rw [mkL_eq] at this; exact this
theorem bx_in {B : List Int} (hB : ∀ x ∈ B, 0 <= x /\ x < 256) (i : Nat) : 0 <= B.getD i 0 /\ B.getD i 0 < 256 := by
 rw [List.getD_eq_getElem?_getD]
 cases h : B[i]? with
 | none => exact ⟨by decide, by decide⟩
 | some x => exact hB x (List.mem_of_getElem? h)
theorem box_in : ∀ x ∈ BOX, 0 <= x /\ x < 256 := by decide +kernel
theorem kr_in (B : List Int) (key : Nat -> Int) (h : B16 key) : ∀ n, B16 (kr B key n)
 | 0 => h
 | n + 1 => fun j hj => by
  show 0 <= col B (pw n) (kr B key n) (j / 4) (j % 4) /\ col B (pw n) (kr B key n) (j / 4) (j % 4) < 256
  cases j / 4 with
  | zero => exact xr8_in _ _
  | succ c => exact xr8_in _ _
theorem pK_ok {B : List Int} (hB : B.length = 256) (key : Nat -> Int) (h : B16 key) : ∀ n, pK B key n
 | 0 => trivial
 | n + 1 => by
  have k := kr_in B key h n
  have c : ∀ (j : Nat) (p : Prop), j < 16 -> p -> cnd B (kr B key n) j p := fun j p hj hp => by
   obtain ⟨a, b⟩ := k j hj
   exact ⟨⟨hp, a, b⟩, by omega⟩
  exact c 12 _ (by decide) (c 15 _ (by decide) (c 14 _ (by decide) (c 13 _ (by decide) (pK_ok hB key h n))))
theorem ks_ok (key : Nat -> Int) (h : B16 key) (W : World) : Calls Try.prog 37 #[row16 key] W fun e w' => e = .returned (.agg (rowV .u8 176 (ksF BOX key)).toArray) /\ Below W.heap.size W w' :=
 ranF pg F3_ok.given (runKs key) (pK_ok box_len key h 10) rfl rfl W
def S1 (f tk : Bool) (a b n : Int) (i : Nat) : St := ⟨[.int .u8 a, .int .u8 b, undef, undef, .int .u8 0, .int .i64 n, .int .i64 (i : Int), undef] ++ (match f with | true => U 11 | false => J 11) ++ (match tk with | true => J 7 | false => U 7) ++ U 18, [], Tr.rebuild (fun _ => none) 0, 0, 0, [], fun _ => false, True, []⟩
def S2 (tk f tk2 : Bool) (a b n : Int) (j : Nat) : St := ⟨[.int .u8 a, .int .u8 b, undef, undef, .int .u8 0, .int .i64 n, .int .i64 8, .int .i64 (j : Int)] ++ J 11 ++ (match tk with | true => J 7 | false => U 7) ++ (match f with | true => U 10 | false => J 10) ++ (match tk2 with | true => J 6 | false => U 6) ++ U 2, [], Tr.rebuild (fun _ => none) 0, 0, 0, [], fun _ => false, True, []⟩
noncomputable def b1 : Code := loopB Try.prog 71 0
noncomputable def b2 : Code := loopB Try.prog 71 1
def sft (i : Int) : Nat := min (IntKind.u64.wrap i).toNat IntKind.i64.bits
def bit1 (b : Int) (i : Nat) : Bool := ((IntKind.i64.wrap b).fdiv (2 ^ sft i)).tmod 2 == 1
def add1 (a n : Int) (i : Nat) : Int := xorI .i64 n (IntKind.i64.wrap (IntKind.i64.wrap a * 2 ^ sft i))
def bit2 (n : Int) (j : Nat) : Bool := (n.fdiv (2 ^ sft j)).tmod 2 == 1
def red2 (n : Int) (j : Nat) : Int := xorI .i64 n (IntKind.i64.wrap (283 * 2 ^ sft (IntKind.i64.wrap ((j : Int) - 8))))
theorem q0ft (a b n n0 : Int) (rd : Option Nat) (hp : True /\ bit1 b 0 = true) : Step Try.prog rd (S1 true false a b 0 0) b1 (S1 true false a b n 0) (fun e s => e = .normal /\ s = S1 false true a b (add1 a n 0) 1) :=
 Step.std pg (GivenOk.nothing _) (n := 100) (f := 71) (σ := []) (o := [none, some true]) (n1 := 0) (g := fun _ => none) (by kernel_rfl) hp (Nat.le_refl _) rfl (by kernel_rfl)
theorem q0ff (a b n n0 : Int) (rd : Option Nat) (hp : True /\ bit1 b 0 = false) : Step Try.prog rd (S1 true false a b 0 0) b1 (S1 true false a b n 0) (fun e s => e = .normal /\ s = S1 false false a b (n) 1) :=
 Step.std pg (GivenOk.nothing _) (n := 100) (f := 71) (σ := []) (o := [none, some false]) (n1 := 0) (g := fun _ => none) (by kernel_rfl) hp (Nat.le_refl _) rfl (by kernel_rfl)
theorem q1ft (a b n n0 : Int) (rd : Option Nat) (hp : True /\ bit1 b 1 = true) : Step Try.prog rd (S1 true false a b 0 0) b1 (S1 false false a b n 1) (fun e s => e = .normal /\ s = S1 false true a b (add1 a n 1) 2) :=
 Step.std pg (GivenOk.nothing _) (n := 100) (f := 71) (σ := []) (o := [none, some true]) (n1 := 0) (g := fun _ => none) (by kernel_rfl) hp (Nat.le_refl _) rfl (by kernel_rfl)
theorem q1ff (a b n n0 : Int) (rd : Option Nat) (hp : True /\ bit1 b 1 = false) : Step Try.prog rd (S1 true false a b 0 0) b1 (S1 false false a b n 1) (fun e s => e = .normal /\ s = S1 false false a b (n) 2) :=
 Step.std pg (GivenOk.nothing _) (n := 100) (f := 71) (σ := []) (o := [none, some false]) (n1 := 0) (g := fun _ => none) (by kernel_rfl) hp (Nat.le_refl _) rfl (by kernel_rfl)
theorem q1tt (a b n n0 : Int) (rd : Option Nat) (hp : True /\ bit1 b 1 = true) : Step Try.prog rd (S1 true false a b 0 0) b1 (S1 false true a b n 1) (fun e s => e = .normal /\ s = S1 false true a b (add1 a n 1) 2) :=
 Step.std pg (GivenOk.nothing _) (n := 100) (f := 71) (σ := []) (o := [none, some true]) (n1 := 0) (g := fun _ => none) (by kernel_rfl) hp (Nat.le_refl _) rfl (by kernel_rfl)
theorem q1tf (a b n n0 : Int) (rd : Option Nat) (hp : True /\ bit1 b 1 = false) : Step Try.prog rd (S1 true false a b 0 0) b1 (S1 false true a b n 1) (fun e s => e = .normal /\ s = S1 false true a b (n) 2) :=
 Step.std pg (GivenOk.nothing _) (n := 100) (f := 71) (σ := []) (o := [none, some false]) (n1 := 0) (g := fun _ => none) (by kernel_rfl) hp (Nat.le_refl _) rfl (by kernel_rfl)
theorem q2ft (a b n n0 : Int) (rd : Option Nat) (hp : True /\ bit1 b 2 = true) : Step Try.prog rd (S1 true false a b 0 0) b1 (S1 false false a b n 2) (fun e s => e = .normal /\ s = S1 false true a b (add1 a n 2) 3) :=
 Step.std pg (GivenOk.nothing _) (n := 100) (f := 71) (σ := []) (o := [none, some true]) (n1 := 0) (g := fun _ => none) (by kernel_rfl) hp (Nat.le_refl _) rfl (by kernel_rfl)
theorem q2ff (a b n n0 : Int) (rd : Option Nat) (hp : True /\ bit1 b 2 = false) : Step Try.prog rd (S1 true false a b 0 0) b1 (S1 false false a b n 2) (fun e s => e = .normal /\ s = S1 false false a b (n) 3) :=
 Step.std pg (GivenOk.nothing _) (n := 100) (f := 71) (σ := []) (o := [none, some false]) (n1 := 0) (g := fun _ => none) (by kernel_rfl) hp (Nat.le_refl _) rfl (by kernel_rfl)
theorem q2tt (a b n n0 : Int) (rd : Option Nat) (hp : True /\ bit1 b 2 = true) : Step Try.prog rd (S1 true false a b 0 0) b1 (S1 false true a b n 2) (fun e s => e = .normal /\ s = S1 false true a b (add1 a n 2) 3) :=
 Step.std pg (GivenOk.nothing _) (n := 100) (f := 71) (σ := []) (o := [none, some true]) (n1 := 0) (g := fun _ => none) (by kernel_rfl) hp (Nat.le_refl _) rfl (by kernel_rfl)
theorem q2tf (a b n n0 : Int) (rd : Option Nat) (hp : True /\ bit1 b 2 = false) : Step Try.prog rd (S1 true false a b 0 0) b1 (S1 false true a b n 2) (fun e s => e = .normal /\ s = S1 false true a b (n) 3) :=
 Step.std pg (GivenOk.nothing _) (n := 100) (f := 71) (σ := []) (o := [none, some false]) (n1 := 0) (g := fun _ => none) (by kernel_rfl) hp (Nat.le_refl _) rfl (by kernel_rfl)
theorem q3ft (a b n n0 : Int) (rd : Option Nat) (hp : True /\ bit1 b 3 = true) : Step Try.prog rd (S1 true false a b 0 0) b1 (S1 false false a b n 3) (fun e s => e = .normal /\ s = S1 false true a b (add1 a n 3) 4) :=
 Step.std pg (GivenOk.nothing _) (n := 100) (f := 71) (σ := []) (o := [none, some true]) (n1 := 0) (g := fun _ => none) (by kernel_rfl) hp (Nat.le_refl _) rfl (by kernel_rfl)
theorem q3ff (a b n n0 : Int) (rd : Option Nat) (hp : True /\ bit1 b 3 = false) : Step Try.prog rd (S1 true false a b 0 0) b1 (S1 false false a b n 3) (fun e s => e = .normal /\ s = S1 false false a b (n) 4) :=
 Step.std pg (GivenOk.nothing _) (n := 100) (f := 71) (σ := []) (o := [none, some false]) (n1 := 0) (g := fun _ => none) (by kernel_rfl) hp (Nat.le_refl _) rfl (by kernel_rfl)
theorem q3tt (a b n n0 : Int) (rd : Option Nat) (hp : True /\ bit1 b 3 = true) : Step Try.prog rd (S1 true false a b 0 0) b1 (S1 false true a b n 3) (fun e s => e = .normal /\ s = S1 false true a b (add1 a n 3) 4) :=
 Step.std pg (GivenOk.nothing _) (n := 100) (f := 71) (σ := []) (o := [none, some true]) (n1 := 0) (g := fun _ => none) (by kernel_rfl) hp (Nat.le_refl _) rfl (by kernel_rfl)
theorem q3tf (a b n n0 : Int) (rd : Option Nat) (hp : True /\ bit1 b 3 = false) : Step Try.prog rd (S1 true false a b 0 0) b1 (S1 false true a b n 3) (fun e s => e = .normal /\ s = S1 false true a b (n) 4) :=
 Step.std pg (GivenOk.nothing _) (n := 100) (f := 71) (σ := []) (o := [none, some false]) (n1 := 0) (g := fun _ => none) (by kernel_rfl) hp (Nat.le_refl _) rfl (by kernel_rfl)
theorem q4ft (a b n n0 : Int) (rd : Option Nat) (hp : True /\ bit1 b 4 = true) : Step Try.prog rd (S1 true false a b 0 0) b1 (S1 false false a b n 4) (fun e s => e = .normal /\ s = S1 false true a b (add1 a n 4) 5) :=
 Step.std pg (GivenOk.nothing _) (n := 100) (f := 71) (σ := []) (o := [none, some true]) (n1 := 0) (g := fun _ => none) (by kernel_rfl) hp (Nat.le_refl _) rfl (by kernel_rfl)
theorem q4ff (a b n n0 : Int) (rd : Option Nat) (hp : True /\ bit1 b 4 = false) : Step Try.prog rd (S1 true false a b 0 0) b1 (S1 false false a b n 4) (fun e s => e = .normal /\ s = S1 false false a b (n) 5) :=
 Step.std pg (GivenOk.nothing _) (n := 100) (f := 71) (σ := []) (o := [none, some false]) (n1 := 0) (g := fun _ => none) (by kernel_rfl) hp (Nat.le_refl _) rfl (by kernel_rfl)
theorem q4tt (a b n n0 : Int) (rd : Option Nat) (hp : True /\ bit1 b 4 = true) : Step Try.prog rd (S1 true false a b 0 0) b1 (S1 false true a b n 4) (fun e s => e = .normal /\ s = S1 false true a b (add1 a n 4) 5) :=
 Step.std pg (GivenOk.nothing _) (n := 100) (f := 71) (σ := []) (o := [none, some true]) (n1 := 0) (g := fun _ => none) (by kernel_rfl) hp (Nat.le_refl _) rfl (by kernel_rfl)
theorem q4tf (a b n n0 : Int) (rd : Option Nat) (hp : True /\ bit1 b 4 = false) : Step Try.prog rd (S1 true false a b 0 0) b1 (S1 false true a b n 4) (fun e s => e = .normal /\ s = S1 false true a b (n) 5) :=
 Step.std pg (GivenOk.nothing _) (n := 100) (f := 71) (σ := []) (o := [none, some false]) (n1 := 0) (g := fun _ => none) (by kernel_rfl) hp (Nat.le_refl _) rfl (by kernel_rfl)
theorem q5ft (a b n n0 : Int) (rd : Option Nat) (hp : True /\ bit1 b 5 = true) : Step Try.prog rd (S1 true false a b 0 0) b1 (S1 false false a b n 5) (fun e s => e = .normal /\ s = S1 false true a b (add1 a n 5) 6) :=
 Step.std pg (GivenOk.nothing _) (n := 100) (f := 71) (σ := []) (o := [none, some true]) (n1 := 0) (g := fun _ => none) (by kernel_rfl) hp (Nat.le_refl _) rfl (by kernel_rfl)
theorem q5ff (a b n n0 : Int) (rd : Option Nat) (hp : True /\ bit1 b 5 = false) : Step Try.prog rd (S1 true false a b 0 0) b1 (S1 false false a b n 5) (fun e s => e = .normal /\ s = S1 false false a b (n) 6) :=
 Step.std pg (GivenOk.nothing _) (n := 100) (f := 71) (σ := []) (o := [none, some false]) (n1 := 0) (g := fun _ => none) (by kernel_rfl) hp (Nat.le_refl _) rfl (by kernel_rfl)
theorem q5tt (a b n n0 : Int) (rd : Option Nat) (hp : True /\ bit1 b 5 = true) : Step Try.prog rd (S1 true false a b 0 0) b1 (S1 false true a b n 5) (fun e s => e = .normal /\ s = S1 false true a b (add1 a n 5) 6) :=
 Step.std pg (GivenOk.nothing _) (n := 100) (f := 71) (σ := []) (o := [none, some true]) (n1 := 0) (g := fun _ => none) (by kernel_rfl) hp (Nat.le_refl _) rfl (by kernel_rfl)
theorem q5tf (a b n n0 : Int) (rd : Option Nat) (hp : True /\ bit1 b 5 = false) : Step Try.prog rd (S1 true false a b 0 0) b1 (S1 false true a b n 5) (fun e s => e = .normal /\ s = S1 false true a b (n) 6) :=
 Step.std pg (GivenOk.nothing _) (n := 100) (f := 71) (σ := []) (o := [none, some false]) (n1 := 0) (g := fun _ => none) (by kernel_rfl) hp (Nat.le_refl _) rfl (by kernel_rfl)
theorem q6ft (a b n n0 : Int) (rd : Option Nat) (hp : True /\ bit1 b 6 = true) : Step Try.prog rd (S1 true false a b 0 0) b1 (S1 false false a b n 6) (fun e s => e = .normal /\ s = S1 false true a b (add1 a n 6) 7) :=
 Step.std pg (GivenOk.nothing _) (n := 100) (f := 71) (σ := []) (o := [none, some true]) (n1 := 0) (g := fun _ => none) (by kernel_rfl) hp (Nat.le_refl _) rfl (by kernel_rfl)
theorem q6ff (a b n n0 : Int) (rd : Option Nat) (hp : True /\ bit1 b 6 = false) : Step Try.prog rd (S1 true false a b 0 0) b1 (S1 false false a b n 6) (fun e s => e = .normal /\ s = S1 false false a b (n) 7) :=
 Step.std pg (GivenOk.nothing _) (n := 100) (f := 71) (σ := []) (o := [none, some false]) (n1 := 0) (g := fun _ => none) (by kernel_rfl) hp (Nat.le_refl _) rfl (by kernel_rfl)
theorem q6tt (a b n n0 : Int) (rd : Option Nat) (hp : True /\ bit1 b 6 = true) : Step Try.prog rd (S1 true false a b 0 0) b1 (S1 false true a b n 6) (fun e s => e = .normal /\ s = S1 false true a b (add1 a n 6) 7) :=
 Step.std pg (GivenOk.nothing _) (n := 100) (f := 71) (σ := []) (o := [none, some true]) (n1 := 0) (g := fun _ => none) (by kernel_rfl) hp (Nat.le_refl _) rfl (by kernel_rfl)
theorem q6tf (a b n n0 : Int) (rd : Option Nat) (hp : True /\ bit1 b 6 = false) : Step Try.prog rd (S1 true false a b 0 0) b1 (S1 false true a b n 6) (fun e s => e = .normal /\ s = S1 false true a b (n) 7) :=
 Step.std pg (GivenOk.nothing _) (n := 100) (f := 71) (σ := []) (o := [none, some false]) (n1 := 0) (g := fun _ => none) (by kernel_rfl) hp (Nat.le_refl _) rfl (by kernel_rfl)
theorem q7ft (a b n n0 : Int) (rd : Option Nat) (hp : True /\ bit1 b 7 = true) : Step Try.prog rd (S1 true false a b 0 0) b1 (S1 false false a b n 7) (fun e s => e = .normal /\ s = S1 false true a b (add1 a n 7) 8) :=
 Step.std pg (GivenOk.nothing _) (n := 100) (f := 71) (σ := []) (o := [none, some true]) (n1 := 0) (g := fun _ => none) (by kernel_rfl) hp (Nat.le_refl _) rfl (by kernel_rfl)
theorem q7ff (a b n n0 : Int) (rd : Option Nat) (hp : True /\ bit1 b 7 = false) : Step Try.prog rd (S1 true false a b 0 0) b1 (S1 false false a b n 7) (fun e s => e = .normal /\ s = S1 false false a b (n) 8) :=
 Step.std pg (GivenOk.nothing _) (n := 100) (f := 71) (σ := []) (o := [none, some false]) (n1 := 0) (g := fun _ => none) (by kernel_rfl) hp (Nat.le_refl _) rfl (by kernel_rfl)
theorem q7tt (a b n n0 : Int) (rd : Option Nat) (hp : True /\ bit1 b 7 = true) : Step Try.prog rd (S1 true false a b 0 0) b1 (S1 false true a b n 7) (fun e s => e = .normal /\ s = S1 false true a b (add1 a n 7) 8) :=
 Step.std pg (GivenOk.nothing _) (n := 100) (f := 71) (σ := []) (o := [none, some true]) (n1 := 0) (g := fun _ => none) (by kernel_rfl) hp (Nat.le_refl _) rfl (by kernel_rfl)
theorem q7tf (a b n n0 : Int) (rd : Option Nat) (hp : True /\ bit1 b 7 = false) : Step Try.prog rd (S1 true false a b 0 0) b1 (S1 false true a b n 7) (fun e s => e = .normal /\ s = S1 false true a b (n) 8) :=
 Step.std pg (GivenOk.nothing _) (n := 100) (f := 71) (σ := []) (o := [none, some false]) (n1 := 0) (g := fun _ => none) (by kernel_rfl) hp (Nat.le_refl _) rfl (by kernel_rfl)
theorem q8f (a b n n0 : Int) (rd : Option Nat)  : Step Try.prog rd (S1 true false a b 0 0) b1 (S1 false false a b n 8) (fun e s => e = .exit 0 /\ s = S1 false false a b n 8) :=
 Step.std pg (GivenOk.nothing _) (n := 100) (f := 71) (σ := []) (o := [none]) (n1 := 0) (g := fun _ => none) (by kernel_rfl) trivial (Nat.le_refl _) rfl (by kernel_rfl)
theorem q8t (a b n n0 : Int) (rd : Option Nat)  : Step Try.prog rd (S1 true false a b 0 0) b1 (S1 false true a b n 8) (fun e s => e = .exit 0 /\ s = S1 false true a b n 8) :=
 Step.std pg (GivenOk.nothing _) (n := 100) (f := 71) (σ := []) (o := [none]) (n1 := 0) (g := fun _ => none) (by kernel_rfl) trivial (Nat.le_refl _) rfl (by kernel_rfl)
theorem r14fft (a b n n0 : Int) (rd : Option Nat) (hp : True /\ bit2 n 14 = true) : Step Try.prog rd (S2 false true false a b n0 14) b2 (S2 false true false a b n 14) (fun e s => e = .normal /\ s = S2 false false true a b (red2 n 14) 13) :=
 Step.std pg (GivenOk.nothing _) (n := 100) (f := 71) (σ := []) (o := [none, some true]) (n1 := 0) (g := fun _ => none) (by kernel_rfl) hp (Nat.le_refl _) rfl (by kernel_rfl)
theorem r14fff (a b n n0 : Int) (rd : Option Nat) (hp : True /\ bit2 n 14 = false) : Step Try.prog rd (S2 false true false a b n0 14) b2 (S2 false true false a b n 14) (fun e s => e = .normal /\ s = S2 false false false a b (n) 13) :=
 Step.std pg (GivenOk.nothing _) (n := 100) (f := 71) (σ := []) (o := [none, some false]) (n1 := 0) (g := fun _ => none) (by kernel_rfl) hp (Nat.le_refl _) rfl (by kernel_rfl)
theorem r13fft (a b n n0 : Int) (rd : Option Nat) (hp : True /\ bit2 n 13 = true) : Step Try.prog rd (S2 false true false a b n0 14) b2 (S2 false false false a b n 13) (fun e s => e = .normal /\ s = S2 false false true a b (red2 n 13) 12) :=
 Step.std pg (GivenOk.nothing _) (n := 100) (f := 71) (σ := []) (o := [none, some true]) (n1 := 0) (g := fun _ => none) (by kernel_rfl) hp (Nat.le_refl _) rfl (by kernel_rfl)
theorem r13fff (a b n n0 : Int) (rd : Option Nat) (hp : True /\ bit2 n 13 = false) : Step Try.prog rd (S2 false true false a b n0 14) b2 (S2 false false false a b n 13) (fun e s => e = .normal /\ s = S2 false false false a b (n) 12) :=
 Step.std pg (GivenOk.nothing _) (n := 100) (f := 71) (σ := []) (o := [none, some false]) (n1 := 0) (g := fun _ => none) (by kernel_rfl) hp (Nat.le_refl _) rfl (by kernel_rfl)
theorem r13ftt (a b n n0 : Int) (rd : Option Nat) (hp : True /\ bit2 n 13 = true) : Step Try.prog rd (S2 false true false a b n0 14) b2 (S2 false false true a b n 13) (fun e s => e = .normal /\ s = S2 false false true a b (red2 n 13) 12) :=
 Step.std pg (GivenOk.nothing _) (n := 100) (f := 71) (σ := []) (o := [none, some true]) (n1 := 0) (g := fun _ => none) (by kernel_rfl) hp (Nat.le_refl _) rfl (by kernel_rfl)
theorem r13ftf (a b n n0 : Int) (rd : Option Nat) (hp : True /\ bit2 n 13 = false) : Step Try.prog rd (S2 false true false a b n0 14) b2 (S2 false false true a b n 13) (fun e s => e = .normal /\ s = S2 false false true a b (n) 12) :=
 Step.std pg (GivenOk.nothing _) (n := 100) (f := 71) (σ := []) (o := [none, some false]) (n1 := 0) (g := fun _ => none) (by kernel_rfl) hp (Nat.le_refl _) rfl (by kernel_rfl)
theorem r12fft (a b n n0 : Int) (rd : Option Nat) (hp : True /\ bit2 n 12 = true) : Step Try.prog rd (S2 false true false a b n0 14) b2 (S2 false false false a b n 12) (fun e s => e = .normal /\ s = S2 false false true a b (red2 n 12) 11) :=
 Step.std pg (GivenOk.nothing _) (n := 100) (f := 71) (σ := []) (o := [none, some true]) (n1 := 0) (g := fun _ => none) (by kernel_rfl) hp (Nat.le_refl _) rfl (by kernel_rfl)
theorem r12fff (a b n n0 : Int) (rd : Option Nat) (hp : True /\ bit2 n 12 = false) : Step Try.prog rd (S2 false true false a b n0 14) b2 (S2 false false false a b n 12) (fun e s => e = .normal /\ s = S2 false false false a b (n) 11) :=
 Step.std pg (GivenOk.nothing _) (n := 100) (f := 71) (σ := []) (o := [none, some false]) (n1 := 0) (g := fun _ => none) (by kernel_rfl) hp (Nat.le_refl _) rfl (by kernel_rfl)
theorem r12ftt (a b n n0 : Int) (rd : Option Nat) (hp : True /\ bit2 n 12 = true) : Step Try.prog rd (S2 false true false a b n0 14) b2 (S2 false false true a b n 12) (fun e s => e = .normal /\ s = S2 false false true a b (red2 n 12) 11) :=
 Step.std pg (GivenOk.nothing _) (n := 100) (f := 71) (σ := []) (o := [none, some true]) (n1 := 0) (g := fun _ => none) (by kernel_rfl) hp (Nat.le_refl _) rfl (by kernel_rfl)
theorem r12ftf (a b n n0 : Int) (rd : Option Nat) (hp : True /\ bit2 n 12 = false) : Step Try.prog rd (S2 false true false a b n0 14) b2 (S2 false false true a b n 12) (fun e s => e = .normal /\ s = S2 false false true a b (n) 11) :=
 Step.std pg (GivenOk.nothing _) (n := 100) (f := 71) (σ := []) (o := [none, some false]) (n1 := 0) (g := fun _ => none) (by kernel_rfl) hp (Nat.le_refl _) rfl (by kernel_rfl)
theorem r11fft (a b n n0 : Int) (rd : Option Nat) (hp : True /\ bit2 n 11 = true) : Step Try.prog rd (S2 false true false a b n0 14) b2 (S2 false false false a b n 11) (fun e s => e = .normal /\ s = S2 false false true a b (red2 n 11) 10) :=
 Step.std pg (GivenOk.nothing _) (n := 100) (f := 71) (σ := []) (o := [none, some true]) (n1 := 0) (g := fun _ => none) (by kernel_rfl) hp (Nat.le_refl _) rfl (by kernel_rfl)
theorem r11fff (a b n n0 : Int) (rd : Option Nat) (hp : True /\ bit2 n 11 = false) : Step Try.prog rd (S2 false true false a b n0 14) b2 (S2 false false false a b n 11) (fun e s => e = .normal /\ s = S2 false false false a b (n) 10) :=
 Step.std pg (GivenOk.nothing _) (n := 100) (f := 71) (σ := []) (o := [none, some false]) (n1 := 0) (g := fun _ => none) (by kernel_rfl) hp (Nat.le_refl _) rfl (by kernel_rfl)
theorem r11ftt (a b n n0 : Int) (rd : Option Nat) (hp : True /\ bit2 n 11 = true) : Step Try.prog rd (S2 false true false a b n0 14) b2 (S2 false false true a b n 11) (fun e s => e = .normal /\ s = S2 false false true a b (red2 n 11) 10) :=
 Step.std pg (GivenOk.nothing _) (n := 100) (f := 71) (σ := []) (o := [none, some true]) (n1 := 0) (g := fun _ => none) (by kernel_rfl) hp (Nat.le_refl _) rfl (by kernel_rfl)
theorem r11ftf (a b n n0 : Int) (rd : Option Nat) (hp : True /\ bit2 n 11 = false) : Step Try.prog rd (S2 false true false a b n0 14) b2 (S2 false false true a b n 11) (fun e s => e = .normal /\ s = S2 false false true a b (n) 10) :=
 Step.std pg (GivenOk.nothing _) (n := 100) (f := 71) (σ := []) (o := [none, some false]) (n1 := 0) (g := fun _ => none) (by kernel_rfl) hp (Nat.le_refl _) rfl (by kernel_rfl)
theorem r10fft (a b n n0 : Int) (rd : Option Nat) (hp : True /\ bit2 n 10 = true) : Step Try.prog rd (S2 false true false a b n0 14) b2 (S2 false false false a b n 10) (fun e s => e = .normal /\ s = S2 false false true a b (red2 n 10) 9) :=
 Step.std pg (GivenOk.nothing _) (n := 100) (f := 71) (σ := []) (o := [none, some true]) (n1 := 0) (g := fun _ => none) (by kernel_rfl) hp (Nat.le_refl _) rfl (by kernel_rfl)
theorem r10fff (a b n n0 : Int) (rd : Option Nat) (hp : True /\ bit2 n 10 = false) : Step Try.prog rd (S2 false true false a b n0 14) b2 (S2 false false false a b n 10) (fun e s => e = .normal /\ s = S2 false false false a b (n) 9) :=
 Step.std pg (GivenOk.nothing _) (n := 100) (f := 71) (σ := []) (o := [none, some false]) (n1 := 0) (g := fun _ => none) (by kernel_rfl) hp (Nat.le_refl _) rfl (by kernel_rfl)
theorem r10ftt (a b n n0 : Int) (rd : Option Nat) (hp : True /\ bit2 n 10 = true) : Step Try.prog rd (S2 false true false a b n0 14) b2 (S2 false false true a b n 10) (fun e s => e = .normal /\ s = S2 false false true a b (red2 n 10) 9) :=
 Step.std pg (GivenOk.nothing _) (n := 100) (f := 71) (σ := []) (o := [none, some true]) (n1 := 0) (g := fun _ => none) (by kernel_rfl) hp (Nat.le_refl _) rfl (by kernel_rfl)
theorem r10ftf (a b n n0 : Int) (rd : Option Nat) (hp : True /\ bit2 n 10 = false) : Step Try.prog rd (S2 false true false a b n0 14) b2 (S2 false false true a b n 10) (fun e s => e = .normal /\ s = S2 false false true a b (n) 9) :=
 Step.std pg (GivenOk.nothing _) (n := 100) (f := 71) (σ := []) (o := [none, some false]) (n1 := 0) (g := fun _ => none) (by kernel_rfl) hp (Nat.le_refl _) rfl (by kernel_rfl)
theorem r9fft (a b n n0 : Int) (rd : Option Nat) (hp : True /\ bit2 n 9 = true) : Step Try.prog rd (S2 false true false a b n0 14) b2 (S2 false false false a b n 9) (fun e s => e = .normal /\ s = S2 false false true a b (red2 n 9) 8) :=
 Step.std pg (GivenOk.nothing _) (n := 100) (f := 71) (σ := []) (o := [none, some true]) (n1 := 0) (g := fun _ => none) (by kernel_rfl) hp (Nat.le_refl _) rfl (by kernel_rfl)
theorem r9fff (a b n n0 : Int) (rd : Option Nat) (hp : True /\ bit2 n 9 = false) : Step Try.prog rd (S2 false true false a b n0 14) b2 (S2 false false false a b n 9) (fun e s => e = .normal /\ s = S2 false false false a b (n) 8) :=
 Step.std pg (GivenOk.nothing _) (n := 100) (f := 71) (σ := []) (o := [none, some false]) (n1 := 0) (g := fun _ => none) (by kernel_rfl) hp (Nat.le_refl _) rfl (by kernel_rfl)
theorem r9ftt (a b n n0 : Int) (rd : Option Nat) (hp : True /\ bit2 n 9 = true) : Step Try.prog rd (S2 false true false a b n0 14) b2 (S2 false false true a b n 9) (fun e s => e = .normal /\ s = S2 false false true a b (red2 n 9) 8) :=
 Step.std pg (GivenOk.nothing _) (n := 100) (f := 71) (σ := []) (o := [none, some true]) (n1 := 0) (g := fun _ => none) (by kernel_rfl) hp (Nat.le_refl _) rfl (by kernel_rfl)
theorem r9ftf (a b n n0 : Int) (rd : Option Nat) (hp : True /\ bit2 n 9 = false) : Step Try.prog rd (S2 false true false a b n0 14) b2 (S2 false false true a b n 9) (fun e s => e = .normal /\ s = S2 false false true a b (n) 8) :=
 Step.std pg (GivenOk.nothing _) (n := 100) (f := 71) (σ := []) (o := [none, some false]) (n1 := 0) (g := fun _ => none) (by kernel_rfl) hp (Nat.le_refl _) rfl (by kernel_rfl)
theorem r8fft (a b n n0 : Int) (rd : Option Nat) (hp : True /\ bit2 n 8 = true) : Step Try.prog rd (S2 false true false a b n0 14) b2 (S2 false false false a b n 8) (fun e s => e = .normal /\ s = S2 false false true a b (red2 n 8) 7) :=
 Step.std pg (GivenOk.nothing _) (n := 100) (f := 71) (σ := []) (o := [none, some true]) (n1 := 0) (g := fun _ => none) (by kernel_rfl) hp (Nat.le_refl _) rfl (by kernel_rfl)
theorem r8fff (a b n n0 : Int) (rd : Option Nat) (hp : True /\ bit2 n 8 = false) : Step Try.prog rd (S2 false true false a b n0 14) b2 (S2 false false false a b n 8) (fun e s => e = .normal /\ s = S2 false false false a b (n) 7) :=
 Step.std pg (GivenOk.nothing _) (n := 100) (f := 71) (σ := []) (o := [none, some false]) (n1 := 0) (g := fun _ => none) (by kernel_rfl) hp (Nat.le_refl _) rfl (by kernel_rfl)
theorem r8ftt (a b n n0 : Int) (rd : Option Nat) (hp : True /\ bit2 n 8 = true) : Step Try.prog rd (S2 false true false a b n0 14) b2 (S2 false false true a b n 8) (fun e s => e = .normal /\ s = S2 false false true a b (red2 n 8) 7) :=
 Step.std pg (GivenOk.nothing _) (n := 100) (f := 71) (σ := []) (o := [none, some true]) (n1 := 0) (g := fun _ => none) (by kernel_rfl) hp (Nat.le_refl _) rfl (by kernel_rfl)
theorem r8ftf (a b n n0 : Int) (rd : Option Nat) (hp : True /\ bit2 n 8 = false) : Step Try.prog rd (S2 false true false a b n0 14) b2 (S2 false false true a b n 8) (fun e s => e = .normal /\ s = S2 false false true a b (n) 7) :=
 Step.std pg (GivenOk.nothing _) (n := 100) (f := 71) (σ := []) (o := [none, some false]) (n1 := 0) (g := fun _ => none) (by kernel_rfl) hp (Nat.le_refl _) rfl (by kernel_rfl)
theorem r7ff (a b n n0 : Int) (rd : Option Nat)  : Step Try.prog rd (S2 false true false a b n0 14) b2 (S2 false false false a b n 7) (fun e s => e = .exit 2 /\ s = S2 false false false a b n 7) :=
 Step.std pg (GivenOk.nothing _) (n := 100) (f := 71) (σ := []) (o := [none]) (n1 := 0) (g := fun _ => none) (by kernel_rfl) trivial (Nat.le_refl _) rfl (by kernel_rfl)
theorem r7ft (a b n n0 : Int) (rd : Option Nat)  : Step Try.prog rd (S2 false true false a b n0 14) b2 (S2 false false true a b n 7) (fun e s => e = .exit 2 /\ s = S2 false false true a b n 7) :=
 Step.std pg (GivenOk.nothing _) (n := 100) (f := 71) (σ := []) (o := [none]) (n1 := 0) (g := fun _ => none) (by kernel_rfl) trivial (Nat.le_refl _) rfl (by kernel_rfl)
theorem r14tft (a b n n0 : Int) (rd : Option Nat) (hp : True /\ bit2 n 14 = true) : Step Try.prog rd (S2 true true false a b n0 14) b2 (S2 true true false a b n 14) (fun e s => e = .normal /\ s = S2 true false true a b (red2 n 14) 13) :=
 Step.std pg (GivenOk.nothing _) (n := 100) (f := 71) (σ := []) (o := [none, some true]) (n1 := 0) (g := fun _ => none) (by kernel_rfl) hp (Nat.le_refl _) rfl (by kernel_rfl)
theorem r14tff (a b n n0 : Int) (rd : Option Nat) (hp : True /\ bit2 n 14 = false) : Step Try.prog rd (S2 true true false a b n0 14) b2 (S2 true true false a b n 14) (fun e s => e = .normal /\ s = S2 true false false a b (n) 13) :=
 Step.std pg (GivenOk.nothing _) (n := 100) (f := 71) (σ := []) (o := [none, some false]) (n1 := 0) (g := fun _ => none) (by kernel_rfl) hp (Nat.le_refl _) rfl (by kernel_rfl)
theorem r13tft (a b n n0 : Int) (rd : Option Nat) (hp : True /\ bit2 n 13 = true) : Step Try.prog rd (S2 true true false a b n0 14) b2 (S2 true false false a b n 13) (fun e s => e = .normal /\ s = S2 true false true a b (red2 n 13) 12) :=
 Step.std pg (GivenOk.nothing _) (n := 100) (f := 71) (σ := []) (o := [none, some true]) (n1 := 0) (g := fun _ => none) (by kernel_rfl) hp (Nat.le_refl _) rfl (by kernel_rfl)
theorem r13tff (a b n n0 : Int) (rd : Option Nat) (hp : True /\ bit2 n 13 = false) : Step Try.prog rd (S2 true true false a b n0 14) b2 (S2 true false false a b n 13) (fun e s => e = .normal /\ s = S2 true false false a b (n) 12) :=
 Step.std pg (GivenOk.nothing _) (n := 100) (f := 71) (σ := []) (o := [none, some false]) (n1 := 0) (g := fun _ => none) (by kernel_rfl) hp (Nat.le_refl _) rfl (by kernel_rfl)
theorem r13ttt (a b n n0 : Int) (rd : Option Nat) (hp : True /\ bit2 n 13 = true) : Step Try.prog rd (S2 true true false a b n0 14) b2 (S2 true false true a b n 13) (fun e s => e = .normal /\ s = S2 true false true a b (red2 n 13) 12) :=
 Step.std pg (GivenOk.nothing _) (n := 100) (f := 71) (σ := []) (o := [none, some true]) (n1 := 0) (g := fun _ => none) (by kernel_rfl) hp (Nat.le_refl _) rfl (by kernel_rfl)
theorem r13ttf (a b n n0 : Int) (rd : Option Nat) (hp : True /\ bit2 n 13 = false) : Step Try.prog rd (S2 true true false a b n0 14) b2 (S2 true false true a b n 13) (fun e s => e = .normal /\ s = S2 true false true a b (n) 12) :=
 Step.std pg (GivenOk.nothing _) (n := 100) (f := 71) (σ := []) (o := [none, some false]) (n1 := 0) (g := fun _ => none) (by kernel_rfl) hp (Nat.le_refl _) rfl (by kernel_rfl)
theorem r12tft (a b n n0 : Int) (rd : Option Nat) (hp : True /\ bit2 n 12 = true) : Step Try.prog rd (S2 true true false a b n0 14) b2 (S2 true false false a b n 12) (fun e s => e = .normal /\ s = S2 true false true a b (red2 n 12) 11) :=
 Step.std pg (GivenOk.nothing _) (n := 100) (f := 71) (σ := []) (o := [none, some true]) (n1 := 0) (g := fun _ => none) (by kernel_rfl) hp (Nat.le_refl _) rfl (by kernel_rfl)
theorem r12tff (a b n n0 : Int) (rd : Option Nat) (hp : True /\ bit2 n 12 = false) : Step Try.prog rd (S2 true true false a b n0 14) b2 (S2 true false false a b n 12) (fun e s => e = .normal /\ s = S2 true false false a b (n) 11) :=
 Step.std pg (GivenOk.nothing _) (n := 100) (f := 71) (σ := []) (o := [none, some false]) (n1 := 0) (g := fun _ => none) (by kernel_rfl) hp (Nat.le_refl _) rfl (by kernel_rfl)
theorem r12ttt (a b n n0 : Int) (rd : Option Nat) (hp : True /\ bit2 n 12 = true) : Step Try.prog rd (S2 true true false a b n0 14) b2 (S2 true false true a b n 12) (fun e s => e = .normal /\ s = S2 true false true a b (red2 n 12) 11) :=
 Step.std pg (GivenOk.nothing _) (n := 100) (f := 71) (σ := []) (o := [none, some true]) (n1 := 0) (g := fun _ => none) (by kernel_rfl) hp (Nat.le_refl _) rfl (by kernel_rfl)
theorem r12ttf (a b n n0 : Int) (rd : Option Nat) (hp : True /\ bit2 n 12 = false) : Step Try.prog rd (S2 true true false a b n0 14) b2 (S2 true false true a b n 12) (fun e s => e = .normal /\ s = S2 true false true a b (n) 11) :=
 Step.std pg (GivenOk.nothing _) (n := 100) (f := 71) (σ := []) (o := [none, some false]) (n1 := 0) (g := fun _ => none) (by kernel_rfl) hp (Nat.le_refl _) rfl (by kernel_rfl)
theorem r11tft (a b n n0 : Int) (rd : Option Nat) (hp : True /\ bit2 n 11 = true) : Step Try.prog rd (S2 true true false a b n0 14) b2 (S2 true false false a b n 11) (fun e s => e = .normal /\ s = S2 true false true a b (red2 n 11) 10) :=
 Step.std pg (GivenOk.nothing _) (n := 100) (f := 71) (σ := []) (o := [none, some true]) (n1 := 0) (g := fun _ => none) (by kernel_rfl) hp (Nat.le_refl _) rfl (by kernel_rfl)
theorem r11tff (a b n n0 : Int) (rd : Option Nat) (hp : True /\ bit2 n 11 = false) : Step Try.prog rd (S2 true true false a b n0 14) b2 (S2 true false false a b n 11) (fun e s => e = .normal /\ s = S2 true false false a b (n) 10) :=
 Step.std pg (GivenOk.nothing _) (n := 100) (f := 71) (σ := []) (o := [none, some false]) (n1 := 0) (g := fun _ => none) (by kernel_rfl) hp (Nat.le_refl _) rfl (by kernel_rfl)
theorem r11ttt (a b n n0 : Int) (rd : Option Nat) (hp : True /\ bit2 n 11 = true) : Step Try.prog rd (S2 true true false a b n0 14) b2 (S2 true false true a b n 11) (fun e s => e = .normal /\ s = S2 true false true a b (red2 n 11) 10) :=
 Step.std pg (GivenOk.nothing _) (n := 100) (f := 71) (σ := []) (o := [none, some true]) (n1 := 0) (g := fun _ => none) (by kernel_rfl) hp (Nat.le_refl _) rfl (by kernel_rfl)
theorem r11ttf (a b n n0 : Int) (rd : Option Nat) (hp : True /\ bit2 n 11 = false) : Step Try.prog rd (S2 true true false a b n0 14) b2 (S2 true false true a b n 11) (fun e s => e = .normal /\ s = S2 true false true a b (n) 10) :=
 Step.std pg (GivenOk.nothing _) (n := 100) (f := 71) (σ := []) (o := [none, some false]) (n1 := 0) (g := fun _ => none) (by kernel_rfl) hp (Nat.le_refl _) rfl (by kernel_rfl)
theorem r10tft (a b n n0 : Int) (rd : Option Nat) (hp : True /\ bit2 n 10 = true) : Step Try.prog rd (S2 true true false a b n0 14) b2 (S2 true false false a b n 10) (fun e s => e = .normal /\ s = S2 true false true a b (red2 n 10) 9) :=
 Step.std pg (GivenOk.nothing _) (n := 100) (f := 71) (σ := []) (o := [none, some true]) (n1 := 0) (g := fun _ => none) (by kernel_rfl) hp (Nat.le_refl _) rfl (by kernel_rfl)
theorem r10tff (a b n n0 : Int) (rd : Option Nat) (hp : True /\ bit2 n 10 = false) : Step Try.prog rd (S2 true true false a b n0 14) b2 (S2 true false false a b n 10) (fun e s => e = .normal /\ s = S2 true false false a b (n) 9) :=
 Step.std pg (GivenOk.nothing _) (n := 100) (f := 71) (σ := []) (o := [none, some false]) (n1 := 0) (g := fun _ => none) (by kernel_rfl) hp (Nat.le_refl _) rfl (by kernel_rfl)
theorem r10ttt (a b n n0 : Int) (rd : Option Nat) (hp : True /\ bit2 n 10 = true) : Step Try.prog rd (S2 true true false a b n0 14) b2 (S2 true false true a b n 10) (fun e s => e = .normal /\ s = S2 true false true a b (red2 n 10) 9) :=
 Step.std pg (GivenOk.nothing _) (n := 100) (f := 71) (σ := []) (o := [none, some true]) (n1 := 0) (g := fun _ => none) (by kernel_rfl) hp (Nat.le_refl _) rfl (by kernel_rfl)
theorem r10ttf (a b n n0 : Int) (rd : Option Nat) (hp : True /\ bit2 n 10 = false) : Step Try.prog rd (S2 true true false a b n0 14) b2 (S2 true false true a b n 10) (fun e s => e = .normal /\ s = S2 true false true a b (n) 9) :=
 Step.std pg (GivenOk.nothing _) (n := 100) (f := 71) (σ := []) (o := [none, some false]) (n1 := 0) (g := fun _ => none) (by kernel_rfl) hp (Nat.le_refl _) rfl (by kernel_rfl)
theorem r9tft (a b n n0 : Int) (rd : Option Nat) (hp : True /\ bit2 n 9 = true) : Step Try.prog rd (S2 true true false a b n0 14) b2 (S2 true false false a b n 9) (fun e s => e = .normal /\ s = S2 true false true a b (red2 n 9) 8) :=
 Step.std pg (GivenOk.nothing _) (n := 100) (f := 71) (σ := []) (o := [none, some true]) (n1 := 0) (g := fun _ => none) (by kernel_rfl) hp (Nat.le_refl _) rfl (by kernel_rfl)
theorem r9tff (a b n n0 : Int) (rd : Option Nat) (hp : True /\ bit2 n 9 = false) : Step Try.prog rd (S2 true true false a b n0 14) b2 (S2 true false false a b n 9) (fun e s => e = .normal /\ s = S2 true false false a b (n) 8) :=
 Step.std pg (GivenOk.nothing _) (n := 100) (f := 71) (σ := []) (o := [none, some false]) (n1 := 0) (g := fun _ => none) (by kernel_rfl) hp (Nat.le_refl _) rfl (by kernel_rfl)
theorem r9ttt (a b n n0 : Int) (rd : Option Nat) (hp : True /\ bit2 n 9 = true) : Step Try.prog rd (S2 true true false a b n0 14) b2 (S2 true false true a b n 9) (fun e s => e = .normal /\ s = S2 true false true a b (red2 n 9) 8) :=
 Step.std pg (GivenOk.nothing _) (n := 100) (f := 71) (σ := []) (o := [none, some true]) (n1 := 0) (g := fun _ => none) (by kernel_rfl) hp (Nat.le_refl _) rfl (by kernel_rfl)
theorem r9ttf (a b n n0 : Int) (rd : Option Nat) (hp : True /\ bit2 n 9 = false) : Step Try.prog rd (S2 true true false a b n0 14) b2 (S2 true false true a b n 9) (fun e s => e = .normal /\ s = S2 true false true a b (n) 8) :=
 Step.std pg (GivenOk.nothing _) (n := 100) (f := 71) (σ := []) (o := [none, some false]) (n1 := 0) (g := fun _ => none) (by kernel_rfl) hp (Nat.le_refl _) rfl (by kernel_rfl)
theorem r8tft (a b n n0 : Int) (rd : Option Nat) (hp : True /\ bit2 n 8 = true) : Step Try.prog rd (S2 true true false a b n0 14) b2 (S2 true false false a b n 8) (fun e s => e = .normal /\ s = S2 true false true a b (red2 n 8) 7) :=
 Step.std pg (GivenOk.nothing _) (n := 100) (f := 71) (σ := []) (o := [none, some true]) (n1 := 0) (g := fun _ => none) (by kernel_rfl) hp (Nat.le_refl _) rfl (by kernel_rfl)
theorem r8tff (a b n n0 : Int) (rd : Option Nat) (hp : True /\ bit2 n 8 = false) : Step Try.prog rd (S2 true true false a b n0 14) b2 (S2 true false false a b n 8) (fun e s => e = .normal /\ s = S2 true false false a b (n) 7) :=
 Step.std pg (GivenOk.nothing _) (n := 100) (f := 71) (σ := []) (o := [none, some false]) (n1 := 0) (g := fun _ => none) (by kernel_rfl) hp (Nat.le_refl _) rfl (by kernel_rfl)
theorem r8ttt (a b n n0 : Int) (rd : Option Nat) (hp : True /\ bit2 n 8 = true) : Step Try.prog rd (S2 true true false a b n0 14) b2 (S2 true false true a b n 8) (fun e s => e = .normal /\ s = S2 true false true a b (red2 n 8) 7) :=
 Step.std pg (GivenOk.nothing _) (n := 100) (f := 71) (σ := []) (o := [none, some true]) (n1 := 0) (g := fun _ => none) (by kernel_rfl) hp (Nat.le_refl _) rfl (by kernel_rfl)
theorem r8ttf (a b n n0 : Int) (rd : Option Nat) (hp : True /\ bit2 n 8 = false) : Step Try.prog rd (S2 true true false a b n0 14) b2 (S2 true false true a b n 8) (fun e s => e = .normal /\ s = S2 true false true a b (n) 7) :=
 Step.std pg (GivenOk.nothing _) (n := 100) (f := 71) (σ := []) (o := [none, some false]) (n1 := 0) (g := fun _ => none) (by kernel_rfl) hp (Nat.le_refl _) rfl (by kernel_rfl)
theorem r7tf (a b n n0 : Int) (rd : Option Nat)  : Step Try.prog rd (S2 true true false a b n0 14) b2 (S2 true false false a b n 7) (fun e s => e = .exit 2 /\ s = S2 true false false a b n 7) :=
 Step.std pg (GivenOk.nothing _) (n := 100) (f := 71) (σ := []) (o := [none]) (n1 := 0) (g := fun _ => none) (by kernel_rfl) trivial (Nat.le_refl _) rfl (by kernel_rfl)
theorem r7tt (a b n n0 : Int) (rd : Option Nat)  : Step Try.prog rd (S2 true true false a b n0 14) b2 (S2 true false true a b n 7) (fun e s => e = .exit 2 /\ s = S2 true false true a b n 7) :=
 Step.std pg (GivenOk.nothing _) (n := 100) (f := 71) (σ := []) (o := [none]) (n1 := 0) (g := fun _ => none) (by kernel_rfl) trivial (Nat.le_refl _) rfl (by kernel_rfl)
def m1 (a b : Int) : Nat -> Int
 | 0 => 0
 | i + 1 => if bit1 b i then add1 a (m1 a b i) i else m1 a b i
def k1 (b : Int) : Nat -> Bool
 | 0 => false
 | i + 1 => k1 b i || bit1 b i
def m2 (n : Int) : Nat -> Int
 | 0 => n
 | c + 1 => if bit2 (m2 n c) (14 - c) then red2 (m2 n c) (14 - c) else m2 n c
def k2 (n : Int) : Nat -> Bool
 | 0 => false
 | c + 1 => k2 n c || bit2 (m2 n c) (14 - c)
def mulR (a b : Int) : Int := IntKind.u8.wrap (m2 (m1 a b 8) 7)
theorem s1 (a b n : Int) (rd : Option Nat) : ∀ (i : Nat) (tk : Bool), i < 8 -> (i = 0 -> tk = false) -> Step Try.prog rd (S1 true false a b 0 0) b1 (S1 (i == 0) tk a b n i) (fun e s => e = .normal /\ s = S1 false (tk || bit1 b i) a b (if bit1 b i then add1 a n i else n) (i + 1)) := by
 intro i tk hi h0
 cases hb : bit1 b i
 ·have : i = 0 ∨ i = 1 ∨ i = 2 ∨ i = 3 ∨ i = 4 ∨ i = 5 ∨ i = 6 ∨ i = 7 := by omega
  rcases this with rfl | rfl | rfl | rfl | rfl | rfl | rfl | rfl
  ·cases h0 rfl; exact q0ff a b n 0 rd ⟨trivial, hb⟩
  ·cases tk; exact q1ff a b n 0 rd ⟨trivial, hb⟩; exact q1tf a b n 0 rd ⟨trivial, hb⟩
  ·cases tk; exact q2ff a b n 0 rd ⟨trivial, hb⟩; exact q2tf a b n 0 rd ⟨trivial, hb⟩
  ·cases tk; exact q3ff a b n 0 rd ⟨trivial, hb⟩; exact q3tf a b n 0 rd ⟨trivial, hb⟩
  ·cases tk; exact q4ff a b n 0 rd ⟨trivial, hb⟩; exact q4tf a b n 0 rd ⟨trivial, hb⟩
  ·cases tk; exact q5ff a b n 0 rd ⟨trivial, hb⟩; exact q5tf a b n 0 rd ⟨trivial, hb⟩
  ·cases tk; exact q6ff a b n 0 rd ⟨trivial, hb⟩; exact q6tf a b n 0 rd ⟨trivial, hb⟩
  ·cases tk; exact q7ff a b n 0 rd ⟨trivial, hb⟩; exact q7tf a b n 0 rd ⟨trivial, hb⟩
 ·have : i = 0 ∨ i = 1 ∨ i = 2 ∨ i = 3 ∨ i = 4 ∨ i = 5 ∨ i = 6 ∨ i = 7 := by omega
  rcases this with rfl | rfl | rfl | rfl | rfl | rfl | rfl | rfl
  ·cases h0 rfl; exact q0ft a b n 0 rd ⟨trivial, hb⟩
  ·cases tk; exact q1ft a b n 0 rd ⟨trivial, hb⟩; exact q1tt a b n 0 rd ⟨trivial, hb⟩
  ·cases tk; exact q2ft a b n 0 rd ⟨trivial, hb⟩; exact q2tt a b n 0 rd ⟨trivial, hb⟩
  ·cases tk; exact q3ft a b n 0 rd ⟨trivial, hb⟩; exact q3tt a b n 0 rd ⟨trivial, hb⟩
  ·cases tk; exact q4ft a b n 0 rd ⟨trivial, hb⟩; exact q4tt a b n 0 rd ⟨trivial, hb⟩
  ·cases tk; exact q5ft a b n 0 rd ⟨trivial, hb⟩; exact q5tt a b n 0 rd ⟨trivial, hb⟩
  ·cases tk; exact q6ft a b n 0 rd ⟨trivial, hb⟩; exact q6tt a b n 0 rd ⟨trivial, hb⟩
  ·cases tk; exact q7ft a b n 0 rd ⟨trivial, hb⟩; exact q7tt a b n 0 rd ⟨trivial, hb⟩
theorem s2 (a b n n0 : Int) (tk : Bool) (rd : Option Nat) : ∀ (c : Nat) (tk2 : Bool), c < 7 -> (c = 0 -> tk2 = false) -> Step Try.prog rd (S2 tk true false a b n0 14) b2 (S2 tk (c == 0) tk2 a b n (14 - c)) (fun e s => e = .normal /\ s = S2 tk false (tk2 || bit2 n (14 - c)) a b (if bit2 n (14 - c) then red2 n (14 - c) else n) (14 - (c + 1))) := by
 intro c tk2 hc h0
 cases hb : bit2 n (14 - c)
 ·have : c = 0 ∨ c = 1 ∨ c = 2 ∨ c = 3 ∨ c = 4 ∨ c = 5 ∨ c = 6 := by omega
  rcases this with rfl | rfl | rfl | rfl | rfl | rfl | rfl
  ·cases h0 rfl; cases tk; exact r14fff a b n n0 rd ⟨trivial, hb⟩; exact r14tff a b n n0 rd ⟨trivial, hb⟩
  ·cases tk <;> cases tk2; exact r13fff a b n n0 rd ⟨trivial, hb⟩; exact r13ftf a b n n0 rd ⟨trivial, hb⟩; exact r13tff a b n n0 rd ⟨trivial, hb⟩; exact r13ttf a b n n0 rd ⟨trivial, hb⟩
  ·cases tk <;> cases tk2; exact r12fff a b n n0 rd ⟨trivial, hb⟩; exact r12ftf a b n n0 rd ⟨trivial, hb⟩; exact r12tff a b n n0 rd ⟨trivial, hb⟩; exact r12ttf a b n n0 rd ⟨trivial, hb⟩
  ·cases tk <;> cases tk2; exact r11fff a b n n0 rd ⟨trivial, hb⟩; exact r11ftf a b n n0 rd ⟨trivial, hb⟩; exact r11tff a b n n0 rd ⟨trivial, hb⟩; exact r11ttf a b n n0 rd ⟨trivial, hb⟩
  ·cases tk <;> cases tk2; exact r10fff a b n n0 rd ⟨trivial, hb⟩; exact r10ftf a b n n0 rd ⟨trivial, hb⟩; exact r10tff a b n n0 rd ⟨trivial, hb⟩; exact r10ttf a b n n0 rd ⟨trivial, hb⟩
  ·cases tk <;> cases tk2; exact r9fff a b n n0 rd ⟨trivial, hb⟩; exact r9ftf a b n n0 rd ⟨trivial, hb⟩; exact r9tff a b n n0 rd ⟨trivial, hb⟩; exact r9ttf a b n n0 rd ⟨trivial, hb⟩
  ·cases tk <;> cases tk2; exact r8fff a b n n0 rd ⟨trivial, hb⟩; exact r8ftf a b n n0 rd ⟨trivial, hb⟩; exact r8tff a b n n0 rd ⟨trivial, hb⟩; exact r8ttf a b n n0 rd ⟨trivial, hb⟩
 ·have : c = 0 ∨ c = 1 ∨ c = 2 ∨ c = 3 ∨ c = 4 ∨ c = 5 ∨ c = 6 := by omega
  rcases this with rfl | rfl | rfl | rfl | rfl | rfl | rfl
  ·cases h0 rfl; cases tk; exact r14fft a b n n0 rd ⟨trivial, hb⟩; exact r14tft a b n n0 rd ⟨trivial, hb⟩
  ·cases tk <;> cases tk2; exact r13fft a b n n0 rd ⟨trivial, hb⟩; exact r13ftt a b n n0 rd ⟨trivial, hb⟩; exact r13tft a b n n0 rd ⟨trivial, hb⟩; exact r13ttt a b n n0 rd ⟨trivial, hb⟩
  ·cases tk <;> cases tk2; exact r12fft a b n n0 rd ⟨trivial, hb⟩; exact r12ftt a b n n0 rd ⟨trivial, hb⟩; exact r12tft a b n n0 rd ⟨trivial, hb⟩; exact r12ttt a b n n0 rd ⟨trivial, hb⟩
  ·cases tk <;> cases tk2; exact r11fft a b n n0 rd ⟨trivial, hb⟩; exact r11ftt a b n n0 rd ⟨trivial, hb⟩; exact r11tft a b n n0 rd ⟨trivial, hb⟩; exact r11ttt a b n n0 rd ⟨trivial, hb⟩
  ·cases tk <;> cases tk2; exact r10fft a b n n0 rd ⟨trivial, hb⟩; exact r10ftt a b n n0 rd ⟨trivial, hb⟩; exact r10tft a b n n0 rd ⟨trivial, hb⟩; exact r10ttt a b n n0 rd ⟨trivial, hb⟩
  ·cases tk <;> cases tk2; exact r9fft a b n n0 rd ⟨trivial, hb⟩; exact r9ftt a b n n0 rd ⟨trivial, hb⟩; exact r9tft a b n n0 rd ⟨trivial, hb⟩; exact r9ttt a b n n0 rd ⟨trivial, hb⟩
  ·cases tk <;> cases tk2; exact r8fft a b n n0 rd ⟨trivial, hb⟩; exact r8ftt a b n n0 rd ⟨trivial, hb⟩; exact r8tft a b n n0 rd ⟨trivial, hb⟩; exact r8ttt a b n n0 rd ⟨trivial, hb⟩
theorem loop1 (a b : Int) (rd : Option Nat) : CodeOk Try.prog rd (.loop b1) (S1 true false a b 0 0) (.exit 0) (S1 false (k1 b 8) a b (m1 a b 8) 8) := by
 refine CodeOk.of_step (Step.loop (fun k s => ∃ i, i <= 8 /\ k = 8 - i /\ s = S1 (i == 0) (k1 b i) a b (m1 a b i) i) ?_ 8 _ ⟨0, by omega, rfl, rfl⟩)
 rintro k s ⟨i, hi, rfl, rfl⟩
 rcases Nat.lt_or_ge i 8 with h | h
 ·refine (s1 a b (m1 a b i) rd i (k1 b i) h (fun e => by subst e; rfl)).mono ?_
  rintro e s ⟨rfl, rfl⟩
  exact .inl ⟨rfl, 8 - (i + 1), by omega, i + 1, by omega, rfl, rfl⟩
 ·obtain rfl : i = 8 := by omega
  have : ∀ tk, Step Try.prog rd (S1 true false a b 0 0) b1 (S1 false tk a b (m1 a b 8) 8) (fun e s => e = .exit 0 /\ s = S1 false tk a b (m1 a b 8) 8) := fun tk => by
   cases tk
   ·exact q8f a b _ 0 rd
   ·exact q8t a b _ 0 rd
  refine (this (k1 b 8)).mono ?_
  rintro e s ⟨rfl, rfl⟩
  exact .inr ⟨(by intro x; cases x), rfl, rfl⟩
theorem loop2 (a b n0 : Int) (tk : Bool) (rd : Option Nat) : CodeOk Try.prog rd (.loop b2) (S2 tk true false a b n0 14) (.exit 2) (S2 tk false (k2 n0 7) a b (m2 n0 7) 7) := by
 refine CodeOk.of_step (Step.loop (fun k s => ∃ c, c <= 7 /\ k = 7 - c /\ s = S2 tk (c == 0) (k2 n0 c) a b (m2 n0 c) (14 - c)) ?_ 7 _ ⟨0, by omega, rfl, rfl⟩)
 rintro k s ⟨c, hc, rfl, rfl⟩
 rcases Nat.lt_or_ge c 7 with h | h
 ·refine (s2 a b (m2 n0 c) n0 tk rd c (k2 n0 c) h (fun e => by subst e; rfl)).mono ?_
  rintro e s ⟨rfl, rfl⟩
  exact .inl ⟨rfl, 7 - (c + 1), by omega, c + 1, by omega, rfl, rfl⟩
 ·obtain rfl : c = 7 := by omega
  have : ∀ tk2, Step Try.prog rd (S2 tk true false a b n0 14) b2 (S2 tk false tk2 a b (m2 n0 7) 7) (fun e s => e = .exit 2 /\ s = S2 tk false tk2 a b (m2 n0 7) 7) := fun tk2 => by
   cases tk <;> cases tk2
   ·exact r7ff a b _ n0 rd
   ·exact r7ft a b _ n0 rd
   ·exact r7tf a b _ n0 rd
   ·exact r7tt a b _ n0 rd
  refine (this (k2 n0 7)).mono ?_
  rintro e s ⟨rfl, rfl⟩
  exact .inr ⟨(by intro x; cases x), rfl, rfl⟩
def L71 (tk tk2 : Bool) (f : FuncId) (c : Code) (S : St) : Option Ask2 := if f == 71 then (match getL S.tmps 7 with
 | .int _ _ => some ⟨⟨[], [], [], []⟩, .exit 2, fun S => match getL S.tmps 0, getL S.tmps 1, getL S.tmps 5 with
  | .int _ a, .int _ b, .int _ n => S2 tk false tk2 a b (m2 n 7) 7
  | _, _, _ => S⟩
 | _ => some ⟨⟨[], [], [], []⟩, .exit 0, fun S => match getL S.tmps 0, getL S.tmps 1 with
  | .int _ a, .int _ b => S1 false tk a b (m1 a b 8) 8
  | _, _ => S⟩) else none
def KL (tk tk2 : Bool) : Given := Given.asking2 Given.nothing Try.prog (L71 tk tk2)
theorem KL_ok (tk tk2 : Bool) : GivenOk Try.prog (KL tk tk2) := GivenOk.asking2 (GivenOk.nothing _) _
def pMul (tk tk2 : Bool) (a b : Int) : Prop := (True /\ ∀ rd, CodeOk Try.prog rd (.loop b1) (S1 true false a b 0 0) (.exit 0) (S1 false tk a b (m1 a b 8) 8)) /\ ∀ rd, CodeOk Try.prog rd (.loop b2) (S2 tk true false a b (m1 a b 8) 14) (.exit 2) (S2 tk false tk2 a b (m2 (m1 a b 8) 7) 7)
theorem runMulff (a b : Int) : ((mk Try.prog (KL false false) 100).call 71 [.int .u8 a, .int .u8 b] (St.start 0 .leaf [])).map (fun r => (r.1, r.2.obl)) = some (.int .u8 (mulR a b), pMul false false a b) := by kernel_rfl
theorem runMulft (a b : Int) : ((mk Try.prog (KL false true) 100).call 71 [.int .u8 a, .int .u8 b] (St.start 0 .leaf [])).map (fun r => (r.1, r.2.obl)) = some (.int .u8 (mulR a b), pMul false true a b) := by kernel_rfl
theorem runMultf (a b : Int) : ((mk Try.prog (KL true false) 100).call 71 [.int .u8 a, .int .u8 b] (St.start 0 .leaf [])).map (fun r => (r.1, r.2.obl)) = some (.int .u8 (mulR a b), pMul true false a b) := by kernel_rfl
theorem runMultt (a b : Int) : ((mk Try.prog (KL true true) 100).call 71 [.int .u8 a, .int .u8 b] (St.start 0 .leaf [])).map (fun r => (r.1, r.2.obl)) = some (.int .u8 (mulR a b), pMul true true a b) := by kernel_rfl
theorem mul_ok (a b : Int) (W : World) : Calls Try.prog 71 #[.int .u8 a, .int .u8 b] W fun e w' => e = .returned (.int .u8 (mulR a b)) /\ Below W.heap.size W w' := by
 have h1 := loop1 a b
 have h2 := loop2 a b (m1 a b 8) (k1 b 8)
 revert h1 h2
 generalize k1 b 8 = tk
 generalize k2 (m1 a b 8) 7 = tk2
 intro h1 h2
 cases tk <;> cases tk2
 ·exact ranF pg (KL_ok _ _) (runMulff a b) ⟨⟨trivial, h1⟩, h2⟩ rfl rfl W
 ·exact ranF pg (KL_ok _ _) (runMulft a b) ⟨⟨trivial, h1⟩, h2⟩ rfl rfl W
 ·exact ranF pg (KL_ok _ _) (runMultf a b) ⟨⟨trivial, h1⟩, h2⟩ rfl rfl W
 ·exact ranF pg (KL_ok _ _) (runMultt a b) ⟨⟨trivial, h1⟩, h2⟩ rfl rfl W
def FMul (f : FuncId) (args : List Value) : Option Value := match args with
 | [.int .u8 a, .int .u8 b] => if f == 71 then some (.int .u8 (mulR a b)) else none
 | _ => none
theorem FMul_ok : CallsOk Try.prog FMul := fun f args v h => by
 unfold FMul at h
 split at h
 ·rename_i a b
  split at h
  ·rename_i hf
   have hf' : f = 71 := by simpa using hf
   subst hf'; cases h
   exact ⟨rfl, rfl, fun W => mul_ok a b W⟩
  ·cases h
 ·cases h
def KMul : Given := Given.calls FMul
def SI (f : Bool) (b i : Int) : St := ⟨[.int .u8 b, undef, .int .u8 0, .int .i64 i] ++ (match f with | true => U 9 | false => J 9) ++ U 2, [], Tr.rebuild (fun _ => none) 0, 0, 0, [], fun _ => false, True, []⟩
def SRt (b i : Int) : St := ⟨[.int .u8 b, undef, .int .u8 (IntKind.u8.wrap i), .int .i64 i] ++ J 11, [], Tr.rebuild (fun _ => none) 0, 0, 0, [], fun _ => false, True, []⟩
noncomputable def bI : Code := loopB Try.prog 75 0
def hit (b i : Int) : Bool := mulR b (IntKind.u8.wrap i) == 1
theorem i0 (b : Int) (rd : Option Nat) (hp : True /\ hit b 0 = false) : Step Try.prog rd (SI true b 0) bI (SI true b 0) (fun e s => e = .normal /\ s = SI false b 1) :=
 Step.std pg FMul_ok.given (n := 100) (f := 75) (σ := []) (o := [none, some false]) (n1 := 0) (g := fun _ => none) (by kernel_rfl) hp (Nat.le_refl _) rfl (by kernel_rfl)
theorem iN (b i : Int) (rd : Option Nat) (hp : (True /\ decide (i < 256) = true) /\ hit b i = false) : Step Try.prog rd (SI true b 0) bI (SI false b i) (fun e s => e = .normal /\ s = SI false b (IntKind.i64.wrap (i + 1))) :=
 Step.std pg FMul_ok.given (n := 100) (f := 75) (σ := []) (o := [some true, some false]) (n1 := 0) (g := fun _ => none) (by kernel_rfl) hp (Nat.le_refl _) rfl (by kernel_rfl)
theorem iR (b i : Int) (rd : Option Nat) (hp : (True /\ decide (i < 256) = true) /\ hit b i = true) : Step Try.prog rd (SI true b 0) bI (SI false b i) (fun e s => e = .ret /\ s = SRt b i) :=
 Step.std pg FMul_ok.given (n := 100) (f := 75) (σ := []) (o := [some true, some true]) (n1 := 0) (g := fun _ => none) (by kernel_rfl) hp (Nat.le_refl _) rfl (by kernel_rfl)
theorem iX (b i : Int) (rd : Option Nat) (hp : True /\ decide (i < 256) = false) : Step Try.prog rd (SI true b 0) bI (SI false b i) (fun e s => e = .exit 0 /\ s = SI false b i) :=
 Step.std pg FMul_ok.given (n := 100) (f := 75) (σ := []) (o := [some false]) (n1 := 0) (g := fun _ => none) (by kernel_rfl) hp (Nat.le_refl _) rfl (by kernel_rfl)
def fi (b : Int) : Nat -> Nat -> Option Nat
 | 0, _ => none
 | n + 1, i => if hit b i then some i else fi b n (i + 1)
def invR (b : Int) : Int := match fi b 256 0 with
 | some i => IntKind.u8.wrap i
 | none => 0
theorem bit1_0 : ∀ i : Fin 8, bit1 0 i.val = false := by decide +kernel
theorem bit2_0 : ∀ j : Fin 7, bit2 0 (14 - j.val) = false := by decide +kernel
theorem m1_0 (a : Int) : ∀ i, i <= 8 -> m1 a 0 i = 0
 | 0, _ => rfl
 | i + 1, h => by
  unfold m1
  rw [bit1_0 ⟨i, by omega⟩]; exact m1_0 a i (by omega)
theorem m2_0 : ∀ c, c <= 7 -> m2 0 c = 0
 | 0, _ => rfl
 | c + 1, h => by
  unfold m2
  rw [m2_0 c (by omega), bit2_0 ⟨c, by omega⟩]; rfl
theorem hit_0 (b : Int) : hit b 0 = false := by
 unfold hit mulR
 have e : IntKind.u8.wrap 0 = 0 := rfl
 rw [e, m1_0 b 8 (by omega), m2_0 7 (by omega)]; rfl
theorem fi_end (b : Int) {m i : Nat} (h : m = 0) : fi b m i = none := by subst h; rfl
theorem fi_succ (b : Int) {m m' i : Nat} (h : m = m' + 1) : fi b m i = if hit b i then some i else fi b m' (i + 1) := by subst h; rfl
theorem loopI' (b : Int) (rd : Option Nat) (n : Nat) (hn : n = 256) (r : Option Nat) (hr : fi b n 0 = r) : Step Try.prog rd (SI true b 0) (.loop bI) (SI true b 0) (fun e s => match r with
   | some i => e = .ret /\ s = SRt b i
   | none => e = .exit 0 /\ s = SI false b 256) := by
 refine Step.loop (fun k s => ∃ i : Nat, i <= 256 /\ k = 256 - i /\ fi b (n - i) i = r /\ s = SI (i == 0) b i) ?_ 256 _ ⟨0, by omega, rfl, hr, rfl⟩
 rintro k s ⟨i, hi, rfl, hf, rfl⟩
 rcases Nat.lt_or_ge i 256 with h | h
 ·rw [fi_succ b (show n - i = n - (i + 1) + 1 by omega)] at hf
  by_cases h0 : i = 0
  ·subst h0
   refine (i0 b rd ⟨trivial, hit_0 b⟩).mono ?_
   rintro e s ⟨rfl, rfl⟩
   have hh : hit b ((0 : Nat) : Int) = false := hit_0 b
   rw [hh] at hf
   exact .inl ⟨rfl, 255, by omega, 1, by omega, rfl, hf, rfl⟩
  ·have hz : (i == 0) = false := by simpa using h0
   rw [hz]
   cases hh : hit b i with
   | false =>
    rw [hh] at hf
    refine (iN b i rd ⟨⟨trivial, by rw [decide_eq_true_eq]; omega⟩, hh⟩).mono ?_
    rintro e s ⟨rfl, rfl⟩
    refine .inl ⟨rfl, 256 - (i + 1), by omega, i + 1, by omega, rfl, hf, ?_⟩
    have : IntKind.i64.wrap ((i : Int) + 1) = ((i + 1 : Nat) : Int) := by rw [IntKind.wrap_i64]; omega
    rw [this]; rfl
   | true =>
    rw [hh] at hf
    rw [if_pos rfl] at hf
    subst hf
    refine (iR b i rd ⟨⟨trivial, by rw [decide_eq_true_eq]; omega⟩, hh⟩).mono ?_
    rintro e s ⟨rfl, rfl⟩
    exact .inr ⟨(by intro x; cases x), rfl, rfl⟩
 ·obtain rfl : i = 256 := by omega
  rw [fi_end b (show n - 256 = 0 by omega)] at hf
  subst hf
  refine (iX b 256 rd ⟨trivial, rfl⟩).mono ?_
  rintro e s ⟨rfl, rfl⟩
  exact .inr ⟨(by intro x; cases x), rfl, rfl⟩
theorem loopI (b : Int) (rd : Option Nat) (r : Option Nat) (hr : fi b 256 0 = r) : match r with
  | some i => CodeOk Try.prog rd (.loop bI) (SI true b 0) .ret (SRt b i)
  | none => CodeOk Try.prog rd (.loop bI) (SI true b 0) (.exit 0) (SI false b 256) := by
 have key := loopI' b rd 256 rfl r hr
 revert key
 cases r with
 | some i => exact fun key => CodeOk.of_step key
 | none => exact fun key => CodeOk.of_step key
def L75 (r : Option Nat) (f : FuncId) (c : Code) (S : St) : Option Ask2 := if f == 75 then (match r with
 | some i => some ⟨⟨[], [], [], []⟩, .ret, fun S => match getL S.tmps 0 with
  | .int _ b => SRt b i
  | _ => S⟩
 | none => some ⟨⟨[], [], [], []⟩, .exit 0, fun S => match getL S.tmps 0 with
  | .int _ b => SI false b 256
  | _ => S⟩) else none
def KI (r : Option Nat) : Given := Given.asking2 KMul Try.prog (L75 r)
theorem KI_ok (r : Option Nat) : GivenOk Try.prog (KI r) := GivenOk.asking2 FMul_ok.given _
theorem runIs (b : Int) (i : Nat) : ((mk Try.prog (KI (some i)) 100).call 75 [.int .u8 b] (St.start 0 .leaf [])).map (fun r => (r.1, r.2.obl)) = some (.int .u8 (IntKind.u8.wrap i), True /\ ∀ rd, CodeOk Try.prog rd (.loop bI) (SI true b 0) .ret (SRt b i)) := by kernel_rfl
theorem runIn (b : Int) : ((mk Try.prog (KI none) 100).call 75 [.int .u8 b] (St.start 0 .leaf [])).map (fun r => (r.1, r.2.obl)) = some (.int .u8 0, True /\ ∀ rd, CodeOk Try.prog rd (.loop bI) (SI true b 0) (.exit 0) (SI false b 256)) := by kernel_rfl
theorem inv_ok (b : Int) (W : World) : Calls Try.prog 75 #[.int .u8 b] W fun e w' => e = .returned (.int .u8 (invR b)) /\ Below W.heap.size W w' := by
 unfold invR
 cases hf : fi b 256 0 with
 | some i => exact ranF pg (KI_ok _) (runIs b i) ⟨trivial, fun rd => loopI b rd _ hf⟩ rfl rfl W
 | none => exact ranF pg (KI_ok _) (runIn b) ⟨trivial, fun rd => loopI b rd _ hf⟩ rfl rfl W
def FInv (f : FuncId) (args : List Value) : Option Value := match args with
 | [.int .u8 b] => if f == 75 then some (.int .u8 (invR b)) else none
 | _ => none
theorem FInv_ok : CallsOk Try.prog FInv := fun f args v h => by
 unfold FInv at h
 split at h
 ·rename_i b
  split at h
  ·rename_i hf
   have hf' : f = 75 := by simpa using hf
   subst hf'; cases h
   exact ⟨rfl, rfl, fun W => inv_ok b W⟩
  ·cases h
 ·cases h
def rl (x : Int) : Int := w8 (w8 (x * 2) + w8 (x.tdiv 128))
def boxf (x : Int) : Int := xr8 (xr8 (xr8 (xr8 (xr8 x (rl x)) (rl (rl x))) (rl (rl (rl x)))) (rl (rl (rl (rl x))))) 99
def boxR (b : Int) : Int := boxf (invR b)
theorem runBox (b : Int) : ((mk Try.prog (Given.calls FInv) 100).call 70 [.int .u8 b] (St.start 0 .leaf [])).map (fun r => (r.1, r.2.obl)) = some (.int .u8 (boxR b), True) := by kernel_rfl
def FBx (G : Int -> Int) (f : FuncId) (args : List Value) (s : St) : Option Inst := match args with
 | [.int .u8 b] => if f == 70 then some (flI [.int .u8 b] (.int .u8 (G b)) (G = boxR)) else none
 | _ => none
theorem FBx_ok (G : Int -> Int) (f : FuncId) (args : List Value) (s : St) (i : Inst) (h : FBx G f args s = some i) : Fits s i args /\ (i.ask -> CallOk Try.prog f i.args i.s0 i.val i.s1) := by
 unfold FBx at h
 split at h
 ·rename_i b
  split at h
  ·rename_i hf
   have hf' : f = 70 := by simpa using hf
   subst hf'; cases h
   refine flI_ok rfl rfl fun hT W => ?_
   subst hT
   exact ranF pg FInv_ok.given (runBox b) trivial rfl rfl W
  ·cases h
 ·cases h
def KBx (G : Int -> Int) : Given := Given.frames Given.nothing (FBx G)
def pBx (p : Prop) : Nat -> Prop
 | 0 => True
 | n + 1 => pBx p n /\ p
theorem pBx_ok {p : Prop} (h : p) : ∀ n, pBx p n
 | 0 => trivial
 | n + 1 => ⟨pBx_ok h n, h⟩
theorem runBxs (G : Int -> Int) : ((mk Try.prog (KBx G) 400).call 56 [] (St.start 0 .leaf [])).map (fun r => (r.1, r.2.obl)) = some (.agg (rowV .u8 256 fun j => G (IntKind.u8.wrap (j : Int))).toArray, pBx (G = boxR) 256) := by kernel_rfl
end
end ae
end Go.Proofs.Ytkcngffpnnlmeaa
