/- Read off the code by the clean reading. -/
import Derived.Test.YtkcngffpnnlmeaaClnEp
import Derived.Test.YtkcngffpnnlmeaaClnEn
set_option linter.unusedVariables false
set_option linter.unusedSimpArgs false
set_option linter.deprecated false
set_option maxRecDepth 100000
namespace Go.Proofs.Ytkcngffpnnlmeaa
open Go.ChangeShapes Go.WideShapes Go.ChangeAt Go.RowKit Go.Cln
namespace ae
noncomputable section
structure RR where
 fs : List Int -> Nat -> Int
 sn : List Int -> Nat -> Int
 xr : LV -> LV -> Nat -> Int
 mkb : List Int -> LV -> Nat -> Int
 ok : List Int -> Prop
def RR0 : RR := ⟨fst, snd, fun x y => keyF (intAt x) (intAt y), fun K x => enc K (intAt x), OkK⟩
theorem run23 (b k : Nat -> Int) : ((mk Try.prog Given.nothing 200).call 23 [row16 b, row16 k] (St.start 0 .leaf [])).map (fun r => (r.1, r.2.obl)) = some (row16 (keyF b k), True) := by kernel_rfl
def FRf (T : RR) (f : FuncId) (args : List Value) (s : St) : Option Inst := if f == 12 then (match args with
 | [.slice (some ⟨b, o, none⟩) 16 c] => (match s.heap.get b with
  | some (.cells (.ints .u8 K) _) => some ⟨[(b, o)], 1, hK ((K.drop o).take 16), [.slice (some ⟨0, 0, none⟩) 16 c], .tuple #[row16 (T.fs ((K.drop o).take 16)), row16 (T.sn ((K.drop o).take 16))], hKn 73 ((K.drop o).take 16), T = RR0 /\ T.ok ((K.drop o).take 16)⟩
  | _ => none)
 | _ => none) else if f == 23 then (match args with
 | [.agg x, .agg y] => if is16 x && is16 y then some (flI [.agg x, .agg y] (row16 (T.xr x.toList y.toList)) (T = RR0)) else none
 | _ => none) else if f == 27 then (match args with
 | [.slice (some ⟨b, o, none⟩) 16 c, .agg x] => if is16 x then (match s.heap.get b with
  | some (.cells (.ints .u8 K) _) => some ⟨[(b, o)], 1, hK ((K.drop o).take 16), [.slice (some ⟨0, 0, none⟩) 16 c, .agg x], row16 (T.mkb ((K.drop o).take 16) x.toList), hK' ((K.drop o).take 16), T = RR0 /\ T.ok ((K.drop o).take 16)⟩
  | _ => none) else none
 | _ => none) else none
theorem FRf_ok (T : RR) (f : FuncId) (args : List Value) (s : St) (i : Inst) (h : FRf T f args s = some i) : Fits s i args /\ (i.ask -> CallOk Try.prog f i.args i.s0 i.val i.s1) := by
 unfold FRf at h
 split at h
 ·rename_i hf
  have hf' : f = 12 := by simpa using hf
  subst hf'
  split at h
  ·rename_i b o c
   split at h
   ·rename_i K tb hb
    cases h
    refine ⟨fit_win hb rfl rfl rfl rfl, fun hT => ?_⟩
    obtain ⟨rfl, hk⟩ := hT
    exact rblocks_ok _ c hk
   ·cases h
  ·cases h
 ·split at h
  ·rename_i hf
   have hf' : f = 23 := by simpa using hf
   subst hf'
   split at h
   ·rename_i x y
    split at h
    ·rename_i hc
     rw [Bool.and_eq_true] at hc
     have ex := is16_row hc.1
     have ey := is16_row hc.2
     cases h
     refine flI_ok (by rw [ex, ey]; rfl) rfl fun hT W => ?_
     subst hT
     have := ranF pg (GivenOk.nothing _) (run23 (intAt x.toList) (intAt y.toList)) trivial rfl rfl W
     unfold row16 at this
     rw [← ex, ← ey] at this; exact this
    ·cases h
   ·cases h
  ·split at h
   ·rename_i hf
    have hf' : f = 27 := by simpa using hf
    subst hf'
    split at h
    ·rename_i b o c x
     split at h
     ·rename_i hc
      have ex := is16_row hc
      split at h
      ·rename_i K tb hb
       cases h
       refine ⟨fit_win hb rfl rfl rfl (by rw [ex]; rfl), fun hT => ?_⟩
       obtain ⟨rfl, h1, h2⟩ := hT
       have := ref_ok ((K.drop o).take 16) c (intAt x.toList) h1 h2
       unfold row16 at this
       rw [← ex] at this; exact this
      ·cases h
     ·cases h
    ·cases h
   ·cases h
def KR (T : RR) : Given := { Given.frames Given.nothing (FRf T) with fits := true }
theorem KR_ok (T : RR) : GivenOk Try.prog (KR T) := frames_fits ((GivenOk.nothing _).frames (FRf_ok T)) true
def JA : Value := .agg ⟨J 16⟩
def hR (K : List Int) (c : Nat) (M : List Int) (q n d : Nat) (m : Int) (f1 f2 x : Nat -> Int) (i : Int) : Nat -> Option Ob := fun b => match b with
 | 0 => oI K
 | 1 => oI M
 | 2 => some (.cells (.lit (rowV .u8 16 Z0)) 25)
 | 76 => some (.cells (.lit (rowV .u8 16 f1)) 25)
 | 77 => some (.cells (.lit (rowV .u8 16 f2)) 25)
 | 78 => some (.cells (.lit (rowV .u8 16 x)) 25)
 | _ => none
def hd10 (K : List Int) (c : Nat) (M : List Int) (q n d : Nat) (m : Int) (f1 f2 x : Nat -> Int) (i : Int) : LV := [sl 0 0 none 16 c, sl 1 q none n d, undef, undef, P0 2 0, P0 76 0, P0 77 0, .int .i64 m, P0 78 0, .int .i64 i]
def mid5 (f1 f2 : Nat -> Int) : LV := [.tuple #[row16 f1, row16 f2], junk, .tuple #[row16 f1, row16 f2], row16 f1, row16 f2]
def stT (t : LV) (K : List Int) (c : Nat) (M : List Int) (q n d : Nat) (m : Int) (f1 f2 x : Nat -> Int) (i : Int) : St := ⟨t, [], Tr.rebuild (hR K c M q n d m f1 f2 x i) 79, 79, 2, [], fun _ => false, True, []⟩
def RE (K : List Int) (c : Nat) (M : List Int) (q n d : Nat) (m : Int) (f1 f2 x : Nat -> Int) (i : Int) : St := stT (hd10 K c M q n d m f1 f2 x i ++ (U 3 ++ (mid5 f1 f2 ++ (J 5 ++ U 54)))) K c M q n d m f1 f2 x i
def RL (K : List Int) (c : Nat) (M : List Int) (q n d : Nat) (m : Int) (f1 f2 x : Nat -> Int) (i : Int) : St := stT (hd10 K c M q n d m f1 f2 x i ++ (J 3 ++ (mid5 f1 f2 ++ (J 5 ++ (J 33 ++ (U 2 ++ (J 1 ++ (U 3 ++ (J 4 ++ (U 5 ++ (J 1 ++ ([JA, JA, JA, JA] ++ U 1)))))))))))) K c M q n d m f1 f2 x i
def RXr (K : List Int) (c : Nat) (M : List Int) (q n d : Nat) (m : Int) (f1 f2 x : Nat -> Int) (i : Int) : St := stT (hd10 K c M q n d m f1 f2 x i ++ (J 3 ++ (mid5 f1 f2 ++ (J 5 ++ (J 12 ++ (U 5 ++ (J 19 ++ (U 3 ++ (J 4 ++ (J 2 ++ ([JA, JA, JA] ++ (J 1 ++ ([JA, JA, JA, JA] ++ U 1))))))))))))) K c M q n d m f1 f2 x i
def RX16 (K : List Int) (c : Nat) (M : List Int) (q n d : Nat) (m : Int) (f1 f2 x : Nat -> Int) (i : Int) : St := stT (hd10 K c M q n d m f1 f2 x i ++ (J 3 ++ (mid5 f1 f2 ++ (J 5 ++ (J 12 ++ (U 5 ++ (J 19 ++ ([JA, JA, JA] ++ (J 4 ++ (U 5 ++ (J 1 ++ ([JA, JA, JA, JA] ++ U 1)))))))))))) K c M q n d m f1 f2 x i
noncomputable def bT : Code := loopB Try.prog 15 0
def kk (i : Int) : Nat -> Int
 | 0 => 16 * i
 | j + 1 => kk i j + 1
def wr (x : Int) : Prop := IntKind.i64.wrap x = x
def pIn (M : List Int) (q n : Nat) (i : Int) (p : Prop) : Nat -> Prop
 | 0 => p
 | j + 1 => ((((((pIn M q n i p j /\ decide (kk i j < (n : Int)) = true) /\ wr (16 * i)) /\ wr (16 * i + 16)) /\ decide (kk i j < 16 * i + 16) = true) /\ (0 <= kk i j /\ kk i j < (n : Int))) /\ q + (kk i j).toNat * 1 < M.length) /\ wr (kk i j + 1)
def kR (K : List Int) : List Int := (K.drop 0).take 16
def pHd (m i : Int) : Prop := (True /\ decide (i < m) = true) /\ wr (16 * i)
def pFull (T : RR) (K M : List Int) (q n : Nat) (m i : Int) : Prop := ((((((((((pIn M q n i (pHd m i) 16 /\ decide (kk i 16 < (n : Int)) = true) /\ wr (16 * i)) /\ wr (16 * i + 16)) /\ decide (kk i 16 < 16 * i + 16) = false) /\ wr (m - 1)) /\ decide (i = m - 1) = false) /\ wr (m - 1)) /\ decide (i = m - 1) = false) /\ T = RR0) /\ (T = RR0 /\ T.ok (kR K))) /\ wr (i + 1)
def pL16 (T : RR) (K M : List Int) (q n : Nat) (m i : Int) : Prop := ((((((pIn M q n i (pHd m i) 16 /\ decide (kk i 16 < (n : Int)) = false) /\ wr (m - 1)) /\ decide (i = m - 1) = true) /\ T = RR0) /\ T = RR0) /\ (T = RR0 /\ T.ok (kR K))) /\ wr (i + 1)
def pLr (T : RR) (K M : List Int) (q n : Nat) (m i : Int) (r : Nat) : Prop := ((((((((pIn M q n i (pHd m i) r /\ decide (kk i r < (n : Int)) = false) /\ wr (m - 1)) /\ decide (i = m - 1) = true) /\ wr (m - 1)) /\ decide (i = m - 1) = true) /\ T = RR0) /\ T = RR0) /\ (T = RR0 /\ T.ok (kR K))) /\ wr (i + 1)
def o14 : List (Option Bool) := [some true, none, none, some true, none, some true, none, none, some true, some true, some true, none, none, some true]
def oIn (r : Nat) : List (Option Bool) := [some true, some true] ++ (List.range r).flatMap fun _ => o14
def oFull : List (Option Bool) := oIn 16 ++ [some true, none, none, some true, none, some true, none, none, some false, some true, some false, none, none, none, some true, some false, some true]
def oL16 : List (Option Bool) := oIn 16 ++ [some false, none, none, none, none, none, none, some true, some true, none, none, none, some true]
def oLr (r : Nat) : List (Option Bool) := oIn r ++ [some false, none, none, none, none, none, none, some true, some true, none, none, none, some true, some true, none, some true]
def mB (M : List Int) (q : Nat) (i : Int) (j : Nat) : Int := M.getD (q + (kk i j).toNat * 1) 0
def lB (M : List Int) (q : Nat) (i : Int) (r j : Nat) : Int := if j < r then mB M q i j else if j = r then 128 else 0
def xFull (T : RR) (K M : List Int) (q : Nat) (x : Nat -> Int) (i : Int) : Nat -> Int := T.mkb (kR K) (R16 (T.xr (R16 x) (R16 (mB M q i))))
def xL16 (T : RR) (K M : List Int) (q : Nat) (f1 x : Nat -> Int) (i : Int) : Nat -> Int := T.mkb (kR K) (R16 (T.xr (R16 x) (R16 (T.xr (R16 (mB M q i)) (R16 f1)))))
def xLr (T : RR) (K M : List Int) (q : Nat) (f2 x : Nat -> Int) (i : Int) (r : Nat) : Nat -> Int := T.mkb (kR K) (R16 (T.xr (R16 x) (R16 (T.xr (R16 (lB M q i r)) (R16 f2)))))
theorem zE (T : RR) (K : List Int) (c : Nat) (M : List Int) (q n d : Nat) (m : Int) (f1 f2 x : Nat -> Int) (i : Int) (x0 : Nat -> Int) (i0 : Int) (rd : Option Nat) (hp : pFull T K M q n m i) :
  Step Try.prog rd (RE K c M q n d m f1 f2 x0 i0) bT (RE K c M q n d m f1 f2 x i) (fun e s => e = .normal /\ s = RL K c M q n d m f1 f2 (xFull T K M q x i) (i + 1)) :=
 Step.std pg (KR_ok T) (n := 200) (f := 15) (σ := []) (o := oFull) (n1 := 150) (g := hR K c M q n d m f1 f2 (xFull T K M q x i) (i + 1)) (by kernel_rfl) hp (Nat.le_refl _) rfl (by kernel_rfl)
theorem zR (T : RR) (K : List Int) (c : Nat) (M : List Int) (q n d : Nat) (m : Int) (f1 f2 x : Nat -> Int) (i : Int) (x0 : Nat -> Int) (i0 : Int) (rd : Option Nat) (hp : pFull T K M q n m i) :
  Step Try.prog rd (RE K c M q n d m f1 f2 x0 i0) bT (RL K c M q n d m f1 f2 x i) (fun e s => e = .normal /\ s = RL K c M q n d m f1 f2 (xFull T K M q x i) (i + 1)) :=
 Step.std pg (KR_ok T) (n := 200) (f := 15) (σ := []) (o := oFull) (n1 := 150) (g := hR K c M q n d m f1 f2 (xFull T K M q x i) (i + 1)) (by kernel_rfl) hp (Nat.le_refl _) rfl (by kernel_rfl)
theorem z16 (T : RR) (K : List Int) (c : Nat) (M : List Int) (q n d : Nat) (m : Int) (f1 f2 x : Nat -> Int) (i : Int) (x0 : Nat -> Int) (i0 : Int) (rd : Option Nat) (hp : pL16 T K M q n m i) :
  Step Try.prog rd (RE K c M q n d m f1 f2 x0 i0) bT (RL K c M q n d m f1 f2 x i) (fun e s => e = .normal /\ s = RX16 K c M q n d m f1 f2 (xL16 T K M q f1 x i) (i + 1)) :=
 Step.std pg (KR_ok T) (n := 200) (f := 15) (σ := []) (o := oL16) (n1 := 150) (g := hR K c M q n d m f1 f2 (xL16 T K M q f1 x i) (i + 1)) (by kernel_rfl) hp (Nat.le_refl _) rfl (by kernel_rfl)
theorem zX16 (T : RR) (K : List Int) (c : Nat) (M : List Int) (q n d : Nat) (m : Int) (f1 f2 x : Nat -> Int) (i : Int) (x0 : Nat -> Int) (i0 : Int) (rd : Option Nat) (hp : True /\ decide (i < m) = false) :
  Step Try.prog rd (RE K c M q n d m f1 f2 x0 i0) bT (RX16 K c M q n d m f1 f2 x i) (fun e s => e = .exit 0 /\ s = RX16 K c M q n d m f1 f2 x i) :=
 Step.std pg (KR_ok T) (n := 200) (f := 15) (σ := []) (o := [some false]) (n1 := 79) (g := hR K c M q n d m f1 f2 x i) (by kernel_rfl) hp (Nat.le_refl _) rfl (by kernel_rfl)
theorem zXr (T : RR) (K : List Int) (c : Nat) (M : List Int) (q n d : Nat) (m : Int) (f1 f2 x : Nat -> Int) (i : Int) (x0 : Nat -> Int) (i0 : Int) (rd : Option Nat) (hp : True /\ decide (i < m) = false) :
  Step Try.prog rd (RE K c M q n d m f1 f2 x0 i0) bT (RXr K c M q n d m f1 f2 x i) (fun e s => e = .exit 0 /\ s = RXr K c M q n d m f1 f2 x i) :=
 Step.std pg (KR_ok T) (n := 200) (f := 15) (σ := []) (o := [some false]) (n1 := 79) (g := hR K c M q n d m f1 f2 x i) (by kernel_rfl) hp (Nat.le_refl _) rfl (by kernel_rfl)
theorem zL8 (T : RR) (K : List Int) (c : Nat) (M : List Int) (q n d : Nat) (m : Int) (f1 f2 x : Nat -> Int) (i : Int) (x0 : Nat -> Int) (i0 : Int) (rd : Option Nat) (hp : pLr T K M q n m i 8) :
  Step Try.prog rd (RE K c M q n d m f1 f2 x0 i0) bT (RL K c M q n d m f1 f2 x i) (fun e s => e = .normal /\ s = RXr K c M q n d m f1 f2 (xLr T K M q f2 x i 8) (i + 1)) :=
 Step.std pg (KR_ok T) (n := 200) (f := 15) (σ := []) (o := oLr 8) (n1 := 150) (g := hR K c M q n d m f1 f2 (xLr T K M q f2 x i 8) (i + 1)) (by kernel_rfl) hp (Nat.le_refl _) rfl (by kernel_rfl)
theorem zL1 (T : RR) (K : List Int) (c : Nat) (M : List Int) (q n d : Nat) (m : Int) (f1 f2 x : Nat -> Int) (i : Int) (x0 : Nat -> Int) (i0 : Int) (rd : Option Nat) (hp : pLr T K M q n m i 1) :
  Step Try.prog rd (RE K c M q n d m f1 f2 x0 i0) bT (RL K c M q n d m f1 f2 x i) (fun e s => e = .normal /\ s = RXr K c M q n d m f1 f2 (xLr T K M q f2 x i 1) (i + 1)) :=
 Step.std pg (KR_ok T) (n := 200) (f := 15) (σ := []) (o := oLr 1) (n1 := 150) (g := hR K c M q n d m f1 f2 (xLr T K M q f2 x i 1) (i + 1)) (by kernel_rfl) hp (Nat.le_refl _) rfl (by kernel_rfl)
theorem zL2 (T : RR) (K : List Int) (c : Nat) (M : List Int) (q n d : Nat) (m : Int) (f1 f2 x : Nat -> Int) (i : Int) (x0 : Nat -> Int) (i0 : Int) (rd : Option Nat) (hp : pLr T K M q n m i 2) :
  Step Try.prog rd (RE K c M q n d m f1 f2 x0 i0) bT (RL K c M q n d m f1 f2 x i) (fun e s => e = .normal /\ s = RXr K c M q n d m f1 f2 (xLr T K M q f2 x i 2) (i + 1)) :=
 Step.std pg (KR_ok T) (n := 200) (f := 15) (σ := []) (o := oLr 2) (n1 := 150) (g := hR K c M q n d m f1 f2 (xLr T K M q f2 x i 2) (i + 1)) (by kernel_rfl) hp (Nat.le_refl _) rfl (by kernel_rfl)
theorem zL3 (T : RR) (K : List Int) (c : Nat) (M : List Int) (q n d : Nat) (m : Int) (f1 f2 x : Nat -> Int) (i : Int) (x0 : Nat -> Int) (i0 : Int) (rd : Option Nat) (hp : pLr T K M q n m i 3) :
  Step Try.prog rd (RE K c M q n d m f1 f2 x0 i0) bT (RL K c M q n d m f1 f2 x i) (fun e s => e = .normal /\ s = RXr K c M q n d m f1 f2 (xLr T K M q f2 x i 3) (i + 1)) :=
 Step.std pg (KR_ok T) (n := 200) (f := 15) (σ := []) (o := oLr 3) (n1 := 150) (g := hR K c M q n d m f1 f2 (xLr T K M q f2 x i 3) (i + 1)) (by kernel_rfl) hp (Nat.le_refl _) rfl (by kernel_rfl)
theorem zL4 (T : RR) (K : List Int) (c : Nat) (M : List Int) (q n d : Nat) (m : Int) (f1 f2 x : Nat -> Int) (i : Int) (x0 : Nat -> Int) (i0 : Int) (rd : Option Nat) (hp : pLr T K M q n m i 4) :
  Step Try.prog rd (RE K c M q n d m f1 f2 x0 i0) bT (RL K c M q n d m f1 f2 x i) (fun e s => e = .normal /\ s = RXr K c M q n d m f1 f2 (xLr T K M q f2 x i 4) (i + 1)) :=
 Step.std pg (KR_ok T) (n := 200) (f := 15) (σ := []) (o := oLr 4) (n1 := 150) (g := hR K c M q n d m f1 f2 (xLr T K M q f2 x i 4) (i + 1)) (by kernel_rfl) hp (Nat.le_refl _) rfl (by kernel_rfl)
theorem zL5 (T : RR) (K : List Int) (c : Nat) (M : List Int) (q n d : Nat) (m : Int) (f1 f2 x : Nat -> Int) (i : Int) (x0 : Nat -> Int) (i0 : Int) (rd : Option Nat) (hp : pLr T K M q n m i 5) :
  Step Try.prog rd (RE K c M q n d m f1 f2 x0 i0) bT (RL K c M q n d m f1 f2 x i) (fun e s => e = .normal /\ s = RXr K c M q n d m f1 f2 (xLr T K M q f2 x i 5) (i + 1)) :=
 Step.std pg (KR_ok T) (n := 200) (f := 15) (σ := []) (o := oLr 5) (n1 := 150) (g := hR K c M q n d m f1 f2 (xLr T K M q f2 x i 5) (i + 1)) (by kernel_rfl) hp (Nat.le_refl _) rfl (by kernel_rfl)
theorem zL6 (T : RR) (K : List Int) (c : Nat) (M : List Int) (q n d : Nat) (m : Int) (f1 f2 x : Nat -> Int) (i : Int) (x0 : Nat -> Int) (i0 : Int) (rd : Option Nat) (hp : pLr T K M q n m i 6) :
  Step Try.prog rd (RE K c M q n d m f1 f2 x0 i0) bT (RL K c M q n d m f1 f2 x i) (fun e s => e = .normal /\ s = RXr K c M q n d m f1 f2 (xLr T K M q f2 x i 6) (i + 1)) :=
 Step.std pg (KR_ok T) (n := 200) (f := 15) (σ := []) (o := oLr 6) (n1 := 150) (g := hR K c M q n d m f1 f2 (xLr T K M q f2 x i 6) (i + 1)) (by kernel_rfl) hp (Nat.le_refl _) rfl (by kernel_rfl)
theorem zL7 (T : RR) (K : List Int) (c : Nat) (M : List Int) (q n d : Nat) (m : Int) (f1 f2 x : Nat -> Int) (i : Int) (x0 : Nat -> Int) (i0 : Int) (rd : Option Nat) (hp : pLr T K M q n m i 7) :
  Step Try.prog rd (RE K c M q n d m f1 f2 x0 i0) bT (RL K c M q n d m f1 f2 x i) (fun e s => e = .normal /\ s = RXr K c M q n d m f1 f2 (xLr T K M q f2 x i 7) (i + 1)) :=
 Step.std pg (KR_ok T) (n := 200) (f := 15) (σ := []) (o := oLr 7) (n1 := 150) (g := hR K c M q n d m f1 f2 (xLr T K M q f2 x i 7) (i + 1)) (by kernel_rfl) hp (Nat.le_refl _) rfl (by kernel_rfl)
theorem zL9 (T : RR) (K : List Int) (c : Nat) (M : List Int) (q n d : Nat) (m : Int) (f1 f2 x : Nat -> Int) (i : Int) (x0 : Nat -> Int) (i0 : Int) (rd : Option Nat) (hp : pLr T K M q n m i 9) :
  Step Try.prog rd (RE K c M q n d m f1 f2 x0 i0) bT (RL K c M q n d m f1 f2 x i) (fun e s => e = .normal /\ s = RXr K c M q n d m f1 f2 (xLr T K M q f2 x i 9) (i + 1)) :=
 Step.std pg (KR_ok T) (n := 200) (f := 15) (σ := []) (o := oLr 9) (n1 := 150) (g := hR K c M q n d m f1 f2 (xLr T K M q f2 x i 9) (i + 1)) (by kernel_rfl) hp (Nat.le_refl _) rfl (by kernel_rfl)
theorem zL10 (T : RR) (K : List Int) (c : Nat) (M : List Int) (q n d : Nat) (m : Int) (f1 f2 x : Nat -> Int) (i : Int) (x0 : Nat -> Int) (i0 : Int) (rd : Option Nat) (hp : pLr T K M q n m i 10) :
  Step Try.prog rd (RE K c M q n d m f1 f2 x0 i0) bT (RL K c M q n d m f1 f2 x i) (fun e s => e = .normal /\ s = RXr K c M q n d m f1 f2 (xLr T K M q f2 x i 10) (i + 1)) :=
 Step.std pg (KR_ok T) (n := 200) (f := 15) (σ := []) (o := oLr 10) (n1 := 150) (g := hR K c M q n d m f1 f2 (xLr T K M q f2 x i 10) (i + 1)) (by kernel_rfl) hp (Nat.le_refl _) rfl (by kernel_rfl)
theorem zL11 (T : RR) (K : List Int) (c : Nat) (M : List Int) (q n d : Nat) (m : Int) (f1 f2 x : Nat -> Int) (i : Int) (x0 : Nat -> Int) (i0 : Int) (rd : Option Nat) (hp : pLr T K M q n m i 11) :
  Step Try.prog rd (RE K c M q n d m f1 f2 x0 i0) bT (RL K c M q n d m f1 f2 x i) (fun e s => e = .normal /\ s = RXr K c M q n d m f1 f2 (xLr T K M q f2 x i 11) (i + 1)) :=
 Step.std pg (KR_ok T) (n := 200) (f := 15) (σ := []) (o := oLr 11) (n1 := 150) (g := hR K c M q n d m f1 f2 (xLr T K M q f2 x i 11) (i + 1)) (by kernel_rfl) hp (Nat.le_refl _) rfl (by kernel_rfl)
theorem zL12 (T : RR) (K : List Int) (c : Nat) (M : List Int) (q n d : Nat) (m : Int) (f1 f2 x : Nat -> Int) (i : Int) (x0 : Nat -> Int) (i0 : Int) (rd : Option Nat) (hp : pLr T K M q n m i 12) :
  Step Try.prog rd (RE K c M q n d m f1 f2 x0 i0) bT (RL K c M q n d m f1 f2 x i) (fun e s => e = .normal /\ s = RXr K c M q n d m f1 f2 (xLr T K M q f2 x i 12) (i + 1)) :=
 Step.std pg (KR_ok T) (n := 200) (f := 15) (σ := []) (o := oLr 12) (n1 := 150) (g := hR K c M q n d m f1 f2 (xLr T K M q f2 x i 12) (i + 1)) (by kernel_rfl) hp (Nat.le_refl _) rfl (by kernel_rfl)
theorem zL13 (T : RR) (K : List Int) (c : Nat) (M : List Int) (q n d : Nat) (m : Int) (f1 f2 x : Nat -> Int) (i : Int) (x0 : Nat -> Int) (i0 : Int) (rd : Option Nat) (hp : pLr T K M q n m i 13) :
  Step Try.prog rd (RE K c M q n d m f1 f2 x0 i0) bT (RL K c M q n d m f1 f2 x i) (fun e s => e = .normal /\ s = RXr K c M q n d m f1 f2 (xLr T K M q f2 x i 13) (i + 1)) :=
 Step.std pg (KR_ok T) (n := 200) (f := 15) (σ := []) (o := oLr 13) (n1 := 150) (g := hR K c M q n d m f1 f2 (xLr T K M q f2 x i 13) (i + 1)) (by kernel_rfl) hp (Nat.le_refl _) rfl (by kernel_rfl)
theorem zL14 (T : RR) (K : List Int) (c : Nat) (M : List Int) (q n d : Nat) (m : Int) (f1 f2 x : Nat -> Int) (i : Int) (x0 : Nat -> Int) (i0 : Int) (rd : Option Nat) (hp : pLr T K M q n m i 14) :
  Step Try.prog rd (RE K c M q n d m f1 f2 x0 i0) bT (RL K c M q n d m f1 f2 x i) (fun e s => e = .normal /\ s = RXr K c M q n d m f1 f2 (xLr T K M q f2 x i 14) (i + 1)) :=
 Step.std pg (KR_ok T) (n := 200) (f := 15) (σ := []) (o := oLr 14) (n1 := 150) (g := hR K c M q n d m f1 f2 (xLr T K M q f2 x i 14) (i + 1)) (by kernel_rfl) hp (Nat.le_refl _) rfl (by kernel_rfl)
theorem zL15 (T : RR) (K : List Int) (c : Nat) (M : List Int) (q n d : Nat) (m : Int) (f1 f2 x : Nat -> Int) (i : Int) (x0 : Nat -> Int) (i0 : Int) (rd : Option Nat) (hp : pLr T K M q n m i 15) :
  Step Try.prog rd (RE K c M q n d m f1 f2 x0 i0) bT (RL K c M q n d m f1 f2 x i) (fun e s => e = .normal /\ s = RXr K c M q n d m f1 f2 (xLr T K M q f2 x i 15) (i + 1)) :=
 Step.std pg (KR_ok T) (n := 200) (f := 15) (σ := []) (o := oLr 15) (n1 := 150) (g := hR K c M q n d m f1 f2 (xLr T K M q f2 x i 15) (i + 1)) (by kernel_rfl) hp (Nat.le_refl _) rfl (by kernel_rfl)
theorem wr_ok {x : Int} (h0 : 0 <= x) (h1 : x <= 100000000) : wr x := by
 unfold wr; rw [IntKind.wrap_i64]; omega
theorem kk_eq (i : Int) : ∀ j, kk i j = 16 * i + (j : Int)
 | 0 => by show 16 * i = _; omega
 | j + 1 => by show kk i j + 1 = _; rw [kk_eq i j]; omega
theorem pIn_ok {M : List Int} {n i : Nat} {p : Prop} (hp : p) (hn : n <= 1000000) (hM : n <= M.length) : ∀ j, j <= 16 -> 16 * i + j <= n -> pIn M 0 n i p j
 | 0, _, _ => hp
 | j + 1, h, h' => by
  have e := kk_eq (i : Int) j
  refine ⟨⟨⟨⟨⟨⟨⟨pIn_ok hp hn hM j (by omega) (by omega), ?_⟩, wr_ok (by omega) (by omega)⟩, wr_ok (by omega) (by omega)⟩, ?_⟩, by omega, by omega⟩, ?_⟩, wr_ok (by omega) (by omega)⟩
  ·rw [decide_eq_true_eq]; omega
  ·rw [decide_eq_true_eq]; omega
  ·rw [e]; omega
theorem kR_eq {K : List Int} (h : K.length = 16) : kR K = K := List.take_of_length_le (by rw [List.drop_zero, h]; exact Nat.le_refl _)
theorem pHd_ok {i m : Nat} (h : i < m) (hm : m <= 1000000) : pHd (m : Int) i := ⟨⟨trivial, by rw [decide_eq_true_eq]; omega⟩, wr_ok (by omega) (by omega)⟩
theorem pFull_ok {K M : List Int} {n m i : Nat} (hK : OkK K) (hn : n <= 1000000) (hM : M.length = n) (hi : 16 * (i + 1) < n) (hm : i + 1 < m) (hm' : m <= 1000000) : pFull RR0 K M 0 n m i := by
 have e := kk_eq (i : Int) 16
 refine ⟨⟨⟨⟨⟨⟨⟨⟨⟨⟨⟨pIn_ok (pHd_ok (by omega) hm') hn (by omega) 16 (by omega) (by omega), ?_⟩, wr_ok (by omega) (by omega)⟩, wr_ok (by omega) (by omega)⟩, ?_⟩, wr_ok (by omega) (by omega)⟩, ?_⟩, wr_ok (by omega) (by omega)⟩, ?_⟩, rfl⟩, rfl, by rw [kR_eq hK.1]; exact hK⟩, wr_ok (by omega) (by omega)⟩
 ·rw [decide_eq_true_eq]; omega
 ·rw [decide_eq_false_iff_not]; omega
 ·rw [decide_eq_false_iff_not]; omega
 ·rw [decide_eq_false_iff_not]; omega
theorem pL16_ok {K M : List Int} {n m i : Nat} (hK : OkK K) (hn : n <= 1000000) (hM : M.length = n) (hi : 16 * i + 16 = n) (hm : i + 1 = m) : pL16 RR0 K M 0 n m i := by
 have e := kk_eq (i : Int) 16
 refine ⟨⟨⟨⟨⟨⟨⟨pIn_ok (pHd_ok (by omega) (by omega)) hn (by omega) 16 (by omega) (by omega), ?_⟩, wr_ok (by omega) (by omega)⟩, ?_⟩, rfl⟩, rfl⟩, rfl, by rw [kR_eq hK.1]; exact hK⟩, wr_ok (by omega) (by omega)⟩
 ·rw [decide_eq_false_iff_not]; omega
 ·rw [decide_eq_true_eq]; omega
theorem pLr_ok {K M : List Int} {n m i r : Nat} (hK : OkK K) (hn : n <= 1000000) (hM : M.length = n) (hr : r < 16) (hi : 16 * i + r = n) (hm : i + 1 = m) : pLr RR0 K M 0 n m i r := by
 have e := kk_eq (i : Int) r
 refine ⟨⟨⟨⟨⟨⟨⟨⟨⟨pIn_ok (pHd_ok (by omega) (by omega)) hn (by omega) r (by omega) (by omega), ?_⟩, wr_ok (by omega) (by omega)⟩, ?_⟩, wr_ok (by omega) (by omega)⟩, ?_⟩, rfl⟩, rfl⟩, rfl, by rw [kR_eq hK.1]; exact hK⟩, wr_ok (by omega) (by omega)⟩
 ·rw [decide_eq_false_iff_not]; omega
 ·rw [decide_eq_true_eq]; omega
 ·rw [decide_eq_true_eq]; omega
theorem zLr (T : RR) (K : List Int) (c : Nat) (M : List Int) (q n d : Nat) (m : Int) (f1 f2 x : Nat -> Int) (i : Int) (x0 : Nat -> Int) (i0 : Int) (rd : Option Nat) : ∀ r, 0 < r -> r < 16 -> pLr T K M q n m i r ->
  Step Try.prog rd (RE K c M q n d m f1 f2 x0 i0) bT (RL K c M q n d m f1 f2 x i) (fun e s => e = .normal /\ s = RXr K c M q n d m f1 f2 (xLr T K M q f2 x i r) (i + 1))
 | 1, _, _, hp => zL1 T K c M q n d m f1 f2 x i x0 i0 rd hp
 | 2, _, _, hp => zL2 T K c M q n d m f1 f2 x i x0 i0 rd hp
 | 3, _, _, hp => zL3 T K c M q n d m f1 f2 x i x0 i0 rd hp
 | 4, _, _, hp => zL4 T K c M q n d m f1 f2 x i x0 i0 rd hp
 | 5, _, _, hp => zL5 T K c M q n d m f1 f2 x i x0 i0 rd hp
 | 6, _, _, hp => zL6 T K c M q n d m f1 f2 x i x0 i0 rd hp
 | 7, _, _, hp => zL7 T K c M q n d m f1 f2 x i x0 i0 rd hp
 | 8, _, _, hp => zL8 T K c M q n d m f1 f2 x i x0 i0 rd hp
 | 9, _, _, hp => zL9 T K c M q n d m f1 f2 x i x0 i0 rd hp
 | 10, _, _, hp => zL10 T K c M q n d m f1 f2 x i x0 i0 rd hp
 | 11, _, _, hp => zL11 T K c M q n d m f1 f2 x i x0 i0 rd hp
 | 12, _, _, hp => zL12 T K c M q n d m f1 f2 x i x0 i0 rd hp
 | 13, _, _, hp => zL13 T K c M q n d m f1 f2 x i x0 i0 rd hp
 | 14, _, _, hp => zL14 T K c M q n d m f1 f2 x i x0 i0 rd hp
 | 15, _, _, hp => zL15 T K c M q n d m f1 f2 x i x0 i0 rd hp
 | 0, h, _, _ => absurd h (by decide)
 | r + 16, _, h, _ => absurd h (by omega)
def dch (K M : List Int) : Nat -> Nat -> Int
 | 0 => Z0
 | i + 1 => xFull RR0 K M 0 (dch K M i) i
def RX (r : Nat) : List Int -> Nat -> List Int -> Nat -> Nat -> Nat -> Int -> (Nat -> Int) -> (Nat -> Int) -> (Nat -> Int) -> Int -> St := if r = 16 then RX16 else RXr
def xE (K M : List Int) (f1 f2 : Nat -> Int) (Q r : Nat) : Nat -> Int := if r = 16 then xL16 RR0 K M 0 f1 (dch K M Q) Q else xLr RR0 K M 0 f2 (dch K M Q) Q r
theorem loopT (K : List Int) (c : Nat) (M : List Int) (n d : Nat) (f1 f2 : Nat -> Int) (Q r : Nat) (hQ : 0 < Q) (hr : 0 < r) (hr' : r <= 16) (e : 16 * Q + r = n) (hn : n <= 1000000) (hM : M.length = n) (hK : OkK K) (rd : Option Nat) :
  CodeOk Try.prog rd (.loop bT) (RE K c M 0 n d ((Q + 1 : Nat) : Int) f1 f2 Z0 0) (.exit 0) (RX r K c M 0 n d ((Q + 1 : Nat) : Int) f1 f2 (xE K M f1 f2 Q r) ((Q : Int) + 1)) := by
 refine CodeOk.of_step (Step.loop (fun k s => (k = Q + 1 /\ s = RE K c M 0 n d ((Q + 1 : Nat) : Int) f1 f2 Z0 0) ∨ (∃ i : Nat, 0 < i /\ i <= Q /\ k = Q + 1 - i /\ s = RL K c M 0 n d ((Q + 1 : Nat) : Int) f1 f2 (dch K M i) i) ∨ (k = 0 /\ s = RX r K c M 0 n d ((Q + 1 : Nat) : Int) f1 f2 (xE K M f1 f2 Q r) ((Q : Int) + 1))) ?_ (Q + 1) _ (.inl ⟨rfl, rfl⟩))
 rintro k s (⟨rfl, rfl⟩ | ⟨i, hi0, hi, rfl, rfl⟩ | ⟨rfl, rfl⟩)
 ·refine (zE RR0 K c M 0 n d ((Q + 1 : Nat) : Int) f1 f2 Z0 0 Z0 0 rd (pFull_ok (i := 0) hK hn hM (by omega) (by omega) (by omega))).mono ?_
  rintro e' s ⟨rfl, rfl⟩
  exact .inl ⟨rfl, Q, by omega, .inr (.inl ⟨1, by omega, by omega, rfl, rfl⟩)⟩
 ·rcases Nat.lt_or_ge i Q with h | h
  ·refine (zR RR0 K c M 0 n d ((Q + 1 : Nat) : Int) f1 f2 (dch K M i) i Z0 0 rd (pFull_ok hK hn hM (by omega) (by omega) (by omega))).mono ?_
   rintro e' s ⟨rfl, rfl⟩
   exact .inl ⟨rfl, Q + 1 - (i + 1), by omega, .inr (.inl ⟨i + 1, by omega, by omega, rfl, rfl⟩)⟩
  ·obtain rfl : i = Q := by omega
   by_cases h16 : r = 16
   ·subst h16
    refine (z16 RR0 K c M 0 n d ((i + 1 : Nat) : Int) f1 f2 (dch K M i) i Z0 0 rd (pL16_ok hK hn hM (by omega) rfl)).mono ?_
    rintro e' s ⟨rfl, rfl⟩
    exact .inl ⟨rfl, 0, by omega, .inr (.inr ⟨rfl, rfl⟩)⟩
   ·refine (zLr RR0 K c M 0 n d ((i + 1 : Nat) : Int) f1 f2 (dch K M i) i Z0 0 rd r hr (by omega) (pLr_ok hK hn hM (by omega) (by omega) rfl)).mono ?_
    rintro e' s ⟨rfl, rfl⟩
    refine .inl ⟨rfl, 0, by omega, .inr (.inr ⟨rfl, ?_⟩)⟩
    unfold RX xE
    rw [if_neg h16, if_neg h16]
 ·by_cases h16 : r = 16
  ·subst h16
   refine (zX16 RR0 K c M 0 n d ((Q + 1 : Nat) : Int) f1 f2 (xE K M f1 f2 Q 16) ((Q : Int) + 1) Z0 0 rd ⟨trivial, ?_⟩).mono ?_
   ·rw [decide_eq_false_iff_not]; omega
   ·rintro e' s ⟨rfl, rfl⟩
    exact .inr ⟨(by intro x; cases x), rfl, rfl⟩
  ·have : RX r = RXr := if_neg h16
   rw [this]
   refine (zXr RR0 K c M 0 n d ((Q + 1 : Nat) : Int) f1 f2 (xE K M f1 f2 Q r) ((Q : Int) + 1) Z0 0 rd ⟨trivial, ?_⟩).mono ?_
   ·rw [decide_eq_false_iff_not]; omega
   ·rintro e' s ⟨rfl, rfl⟩
    exact .inr ⟨(by intro x; cases x), rfl, rfl⟩
theorem xFull_eq {K M : List Int} (hK : K.length = 16) {x x' : Nat -> Int} (h : ∀ j, j < 16 -> x j = x' j) (i : Nat) {j : Nat} (hj : j < 16) : xFull RR0 K M 0 x i j = enc K (keyF x' (blk M (16 * i))) j := by
 unfold xFull
 rw [kR_eq hK]
 show mkF BOX (ksF BOX (keyOf K)) (intAt (R16 (keyF (intAt (R16 x)) (intAt (R16 (mB M 0 i)))))) j = _
 refine mkF_congr (fun _ _ => rfl) (fun j hj => ?_) j hj
 rw [at16 hj]
 refine keyF_congr ((at16 hj).trans (h j hj)) ((at16 hj).trans ?_)
 unfold mB blk
 rw [kk_eq, show 0 + (16 * (i : Int) + (j : Int)).toNat * 1 = 16 * i + j by omega]
theorem dch_eq {K M : List Int} (hK : K.length = 16) : ∀ i j, j < 16 -> dch K M i j = chn K M i j
 | 0, _, _ => rfl
 | i + 1, j, hj => xFull_eq hK (fun j hj => dch_eq hK i j hj) i hj
theorem xE_eq {K M : List Int} (hK : K.length = 16) {f1 f2 : Nat -> Int} {Q r : Nat} (h0 : 0 < r) (h1 : r <= 16) (hM : M.length = 16 * Q + r) (g1 : ∀ j, j < 16 -> f1 j = fst K j) (g2 : ∀ j, j < 16 -> f2 j = snd K j) {j : Nat} (hj : j < 16) : xE K M f1 f2 Q r j = tagF K M j := by
 have q1 : (M.length - 1) / 16 = Q := by omega
 unfold tagF qO qR
 rw [q1, hM, show 16 * Q + r - 16 * Q = r by omega]
 have hl : ∀ j, j < r -> ((M.drop (16 * Q)).take r).getD j 0 = M.getD (16 * Q + j) 0 := fun j h => by
  rw [List.getD_eq_getElem?_getD, List.getD_eq_getElem?_getD, List.getElem?_take_of_lt h, List.getElem?_drop]
 unfold xE
 by_cases h16 : r = 16
 ·subst h16
  rw [if_pos rfl]
  unfold xL16
  rw [kR_eq hK]
  show mkF BOX (ksF BOX (keyOf K)) (intAt (R16 (keyF (intAt (R16 (dch K M Q))) (intAt (R16 (keyF (intAt (R16 (mB M 0 Q))) (intAt (R16 f1)))))))) j = _
  refine mkF_congr (fun _ _ => rfl) (fun j hj => ?_) j hj
  rw [at16 hj]
  refine keyF_congr ((at16 hj).trans (dch_eq hK Q j hj)) ((at16 hj).trans ?_)
  refine keyF_congr ((at16 hj).trans ?_) ((at16 hj).trans ?_)
  ·unfold mB lst
   rw [if_pos hj, hl j hj, kk_eq, show 0 + (16 * (Q : Int) + (j : Int)).toNat * 1 = 16 * Q + j by omega]
  ·rw [g1 j hj]; unfold by'; rw [if_pos rfl]
 ·rw [if_neg h16]
  unfold xLr
  rw [kR_eq hK]
  show mkF BOX (ksF BOX (keyOf K)) (intAt (R16 (keyF (intAt (R16 (dch K M Q))) (intAt (R16 (keyF (intAt (R16 (lB M 0 Q r))) (intAt (R16 f2)))))))) j = _
  refine mkF_congr (fun _ _ => rfl) (fun j hj => ?_) j hj
  rw [at16 hj]
  refine keyF_congr ((at16 hj).trans (dch_eq hK Q j hj)) ((at16 hj).trans ?_)
  refine keyF_congr ((at16 hj).trans ?_) ((at16 hj).trans ?_)
  ·unfold lB lst
   by_cases hjr : j < r
   ·rw [if_pos hjr, if_pos hjr, hl j hjr]
    unfold mB
    rw [kk_eq, show 0 + (16 * (Q : Int) + (j : Int)).toNat * 1 = 16 * Q + j by omega]
   ·rw [if_neg hjr, if_neg hjr]
  ·rw [g2 j hj]; unfold by'; rw [if_neg h16]
def askR (S : St) (f : FuncId) (c : Code) (_ : St) : Option Ask2 := if f == 15 then some ⟨⟨[14, 18, 19, 20, 21, 22], [], [], []⟩, .exit 0, fun _ => S⟩ else none
def KRA (T : RR) (S : St) : Given := Given.asking2 (KR T) Try.prog (askR S)
theorem KRA_ok (T : RR) (S : St) : GivenOk Try.prog (KRA T S) := GivenOk.asking2 (KR_ok T) _
def h2 (K M : List Int) : List (Option Ob) := [oI K, oI M]
def mD (n : Nat) : Int := IntKind.i64.wrap (((n : Int) + 15).tdiv 16)
def pBig (T : RR) (K M : List Int) (c n d : Nat) (S : St) : Prop := (((True /\ (T = RR0 /\ T.ok (kR K))) /\ wr ((n : Int) + 15)) /\ decide (mD n > 1) = true) /\ ∀ rd, CodeOk Try.prog rd (.loop bT) (RE K c M 0 n d (mD n) (T.fs (kR K)) (T.sn (kR K)) Z0 0) (.exit 0) S
def pSm (T : RR) (K M : List Int) : Nat -> Prop
 | 0 => True /\ (T = RR0 /\ T.ok (kR K))
 | j + 1 => pSm T K M j /\ 0 + (kk 0 j).toNat * 1 < M.length
def pS3 (T : RR) (K M : List Int) (r : Nat) : Prop := ((pSm T K M r /\ T = RR0) /\ T = RR0) /\ (T = RR0 /\ T.ok (kR K))
def oSm (r : Nat) : List (Option Bool) := nn 4 ++ (List.range r).flatMap fun _ => nn 10 ++ [some true] ++ nn 3
def ks2 (n : Nat) : List Bool := [true, true] ++ List.replicate n false
theorem wT (T : RR) (K : List Int) (c : Nat) (M : List Int) (n d : Nat) (m : Int) (x' : Nat -> Int) (i' : Int) : ((mk Try.prog (KRA T (RXr K c M 0 n d m (T.fs (kR K)) (T.sn (kR K)) x' i')) 200).call 15 [sl 0 0 none 16 c, sl 1 0 none n d] (smSt 2 (h2 K M) [some true, some true])).map (fun r => (r.1, r.2.obl, r.2.next, keepL (ks2 77) r.2.heap.get 0)) = some (row16 x', pBig T K M c n d (RXr K c M 0 n d m (T.fs (kR K)) (T.sn (kR K)) x' i'), (h2 K M ++ List.replicate 77 none).length, h2 K M ++ List.replicate 77 none) := by kernel_rfl
theorem wT16 (T : RR) (K : List Int) (c : Nat) (M : List Int) (n d : Nat) (m : Int) (x' : Nat -> Int) (i' : Int) : ((mk Try.prog (KRA T (RX16 K c M 0 n d m (T.fs (kR K)) (T.sn (kR K)) x' i')) 200).call 15 [sl 0 0 none 16 c, sl 1 0 none n d] (smSt 2 (h2 K M) [some true, some true])).map (fun r => (r.1, r.2.obl, r.2.next, keepL (ks2 77) r.2.heap.get 0)) = some (row16 x', pBig T K M c n d (RX16 K c M 0 n d m (T.fs (kR K)) (T.sn (kR K)) x' i'), (h2 K M ++ List.replicate 77 none).length, h2 K M ++ List.replicate 77 none) := by kernel_rfl
theorem wS0 (T : RR) (K : List Int) (c : Nat) (M : List Int) (d : Nat) : ((mk Try.prog (KR T) 200).call 15 [sl 0 0 none 16 c, sl 1 0 none 0 d] (smSt 2 (h2 K M) (oSm 0))).map (fun r => (r.1, r.2.obl, r.2.next, keepL (ks2 148) r.2.heap.get 0)) = some (row16 (xLr T K M 0 (T.sn (kR K)) Z0 0 0), pS3 T K M 0, (h2 K M ++ List.replicate 148 none).length, h2 K M ++ List.replicate 148 none) := by kernel_rfl
theorem wS1 (T : RR) (K : List Int) (c : Nat) (M : List Int) (d : Nat) : ((mk Try.prog (KR T) 200).call 15 [sl 0 0 none 16 c, sl 1 0 none 1 d] (smSt 2 (h2 K M) (oSm 1))).map (fun r => (r.1, r.2.obl, r.2.next, keepL (ks2 148) r.2.heap.get 0)) = some (row16 (xLr T K M 0 (T.sn (kR K)) Z0 0 1), pS3 T K M 1, (h2 K M ++ List.replicate 148 none).length, h2 K M ++ List.replicate 148 none) := by kernel_rfl
theorem wS2 (T : RR) (K : List Int) (c : Nat) (M : List Int) (d : Nat) : ((mk Try.prog (KR T) 200).call 15 [sl 0 0 none 16 c, sl 1 0 none 2 d] (smSt 2 (h2 K M) (oSm 2))).map (fun r => (r.1, r.2.obl, r.2.next, keepL (ks2 148) r.2.heap.get 0)) = some (row16 (xLr T K M 0 (T.sn (kR K)) Z0 0 2), pS3 T K M 2, (h2 K M ++ List.replicate 148 none).length, h2 K M ++ List.replicate 148 none) := by kernel_rfl
theorem wS3 (T : RR) (K : List Int) (c : Nat) (M : List Int) (d : Nat) : ((mk Try.prog (KR T) 200).call 15 [sl 0 0 none 16 c, sl 1 0 none 3 d] (smSt 2 (h2 K M) (oSm 3))).map (fun r => (r.1, r.2.obl, r.2.next, keepL (ks2 148) r.2.heap.get 0)) = some (row16 (xLr T K M 0 (T.sn (kR K)) Z0 0 3), pS3 T K M 3, (h2 K M ++ List.replicate 148 none).length, h2 K M ++ List.replicate 148 none) := by kernel_rfl
theorem wS4 (T : RR) (K : List Int) (c : Nat) (M : List Int) (d : Nat) : ((mk Try.prog (KR T) 200).call 15 [sl 0 0 none 16 c, sl 1 0 none 4 d] (smSt 2 (h2 K M) (oSm 4))).map (fun r => (r.1, r.2.obl, r.2.next, keepL (ks2 148) r.2.heap.get 0)) = some (row16 (xLr T K M 0 (T.sn (kR K)) Z0 0 4), pS3 T K M 4, (h2 K M ++ List.replicate 148 none).length, h2 K M ++ List.replicate 148 none) := by kernel_rfl
theorem wS5 (T : RR) (K : List Int) (c : Nat) (M : List Int) (d : Nat) : ((mk Try.prog (KR T) 200).call 15 [sl 0 0 none 16 c, sl 1 0 none 5 d] (smSt 2 (h2 K M) (oSm 5))).map (fun r => (r.1, r.2.obl, r.2.next, keepL (ks2 148) r.2.heap.get 0)) = some (row16 (xLr T K M 0 (T.sn (kR K)) Z0 0 5), pS3 T K M 5, (h2 K M ++ List.replicate 148 none).length, h2 K M ++ List.replicate 148 none) := by kernel_rfl
theorem wS6 (T : RR) (K : List Int) (c : Nat) (M : List Int) (d : Nat) : ((mk Try.prog (KR T) 200).call 15 [sl 0 0 none 16 c, sl 1 0 none 6 d] (smSt 2 (h2 K M) (oSm 6))).map (fun r => (r.1, r.2.obl, r.2.next, keepL (ks2 148) r.2.heap.get 0)) = some (row16 (xLr T K M 0 (T.sn (kR K)) Z0 0 6), pS3 T K M 6, (h2 K M ++ List.replicate 148 none).length, h2 K M ++ List.replicate 148 none) := by kernel_rfl
theorem wS7 (T : RR) (K : List Int) (c : Nat) (M : List Int) (d : Nat) : ((mk Try.prog (KR T) 200).call 15 [sl 0 0 none 16 c, sl 1 0 none 7 d] (smSt 2 (h2 K M) (oSm 7))).map (fun r => (r.1, r.2.obl, r.2.next, keepL (ks2 148) r.2.heap.get 0)) = some (row16 (xLr T K M 0 (T.sn (kR K)) Z0 0 7), pS3 T K M 7, (h2 K M ++ List.replicate 148 none).length, h2 K M ++ List.replicate 148 none) := by kernel_rfl
theorem wS8 (T : RR) (K : List Int) (c : Nat) (M : List Int) (d : Nat) : ((mk Try.prog (KR T) 200).call 15 [sl 0 0 none 16 c, sl 1 0 none 8 d] (smSt 2 (h2 K M) (oSm 8))).map (fun r => (r.1, r.2.obl, r.2.next, keepL (ks2 148) r.2.heap.get 0)) = some (row16 (xLr T K M 0 (T.sn (kR K)) Z0 0 8), pS3 T K M 8, (h2 K M ++ List.replicate 148 none).length, h2 K M ++ List.replicate 148 none) := by kernel_rfl
theorem wS9 (T : RR) (K : List Int) (c : Nat) (M : List Int) (d : Nat) : ((mk Try.prog (KR T) 200).call 15 [sl 0 0 none 16 c, sl 1 0 none 9 d] (smSt 2 (h2 K M) (oSm 9))).map (fun r => (r.1, r.2.obl, r.2.next, keepL (ks2 148) r.2.heap.get 0)) = some (row16 (xLr T K M 0 (T.sn (kR K)) Z0 0 9), pS3 T K M 9, (h2 K M ++ List.replicate 148 none).length, h2 K M ++ List.replicate 148 none) := by kernel_rfl
theorem wS10 (T : RR) (K : List Int) (c : Nat) (M : List Int) (d : Nat) : ((mk Try.prog (KR T) 200).call 15 [sl 0 0 none 16 c, sl 1 0 none 10 d] (smSt 2 (h2 K M) (oSm 10))).map (fun r => (r.1, r.2.obl, r.2.next, keepL (ks2 148) r.2.heap.get 0)) = some (row16 (xLr T K M 0 (T.sn (kR K)) Z0 0 10), pS3 T K M 10, (h2 K M ++ List.replicate 148 none).length, h2 K M ++ List.replicate 148 none) := by kernel_rfl
theorem wS11 (T : RR) (K : List Int) (c : Nat) (M : List Int) (d : Nat) : ((mk Try.prog (KR T) 200).call 15 [sl 0 0 none 16 c, sl 1 0 none 11 d] (smSt 2 (h2 K M) (oSm 11))).map (fun r => (r.1, r.2.obl, r.2.next, keepL (ks2 148) r.2.heap.get 0)) = some (row16 (xLr T K M 0 (T.sn (kR K)) Z0 0 11), pS3 T K M 11, (h2 K M ++ List.replicate 148 none).length, h2 K M ++ List.replicate 148 none) := by kernel_rfl
theorem wS12 (T : RR) (K : List Int) (c : Nat) (M : List Int) (d : Nat) : ((mk Try.prog (KR T) 200).call 15 [sl 0 0 none 16 c, sl 1 0 none 12 d] (smSt 2 (h2 K M) (oSm 12))).map (fun r => (r.1, r.2.obl, r.2.next, keepL (ks2 148) r.2.heap.get 0)) = some (row16 (xLr T K M 0 (T.sn (kR K)) Z0 0 12), pS3 T K M 12, (h2 K M ++ List.replicate 148 none).length, h2 K M ++ List.replicate 148 none) := by kernel_rfl
theorem wS13 (T : RR) (K : List Int) (c : Nat) (M : List Int) (d : Nat) : ((mk Try.prog (KR T) 200).call 15 [sl 0 0 none 16 c, sl 1 0 none 13 d] (smSt 2 (h2 K M) (oSm 13))).map (fun r => (r.1, r.2.obl, r.2.next, keepL (ks2 148) r.2.heap.get 0)) = some (row16 (xLr T K M 0 (T.sn (kR K)) Z0 0 13), pS3 T K M 13, (h2 K M ++ List.replicate 148 none).length, h2 K M ++ List.replicate 148 none) := by kernel_rfl
theorem wS14 (T : RR) (K : List Int) (c : Nat) (M : List Int) (d : Nat) : ((mk Try.prog (KR T) 200).call 15 [sl 0 0 none 16 c, sl 1 0 none 14 d] (smSt 2 (h2 K M) (oSm 14))).map (fun r => (r.1, r.2.obl, r.2.next, keepL (ks2 148) r.2.heap.get 0)) = some (row16 (xLr T K M 0 (T.sn (kR K)) Z0 0 14), pS3 T K M 14, (h2 K M ++ List.replicate 148 none).length, h2 K M ++ List.replicate 148 none) := by kernel_rfl
theorem wS15 (T : RR) (K : List Int) (c : Nat) (M : List Int) (d : Nat) : ((mk Try.prog (KR T) 200).call 15 [sl 0 0 none 16 c, sl 1 0 none 15 d] (smSt 2 (h2 K M) (oSm 15))).map (fun r => (r.1, r.2.obl, r.2.next, keepL (ks2 148) r.2.heap.get 0)) = some (row16 (xLr T K M 0 (T.sn (kR K)) Z0 0 15), pS3 T K M 15, (h2 K M ++ List.replicate 148 none).length, h2 K M ++ List.replicate 148 none) := by kernel_rfl
theorem wS16 (T : RR) (K : List Int) (c : Nat) (M : List Int) (d : Nat) : ((mk Try.prog (KR T) 200).call 15 [sl 0 0 none 16 c, sl 1 0 none 16 d] (smSt 2 (h2 K M) (oSm 16))).map (fun r => (r.1, r.2.obl, r.2.next, keepL (ks2 148) r.2.heap.get 0)) = some (row16 (xL16 T K M 0 (T.fs (kR K)) Z0 0), pS3 T K M 16, (h2 K M ++ List.replicate 148 none).length, h2 K M ++ List.replicate 148 none) := by kernel_rfl
def h2z (K : List Int) : List (Option Ob) := [oI K, none]
def h2n (K : List Int) : List (Option Ob) := [oI K]
theorem wSz (T : RR) (K : List Int) (c : Nat) (d : Nat) : ((mk Try.prog (KR T) 200).call 15 [sl 0 0 none 16 c, sl 1 0 none 0 d] (smSt 2 (h2z K) (oSm 0))).map (fun r => (r.1, r.2.obl, r.2.next, keepL ([true, false] ++ List.replicate 148 false) r.2.heap.get 0)) = some (row16 (xLr T K [] 0 (T.sn (kR K)) Z0 0 0), pS3 T K [] 0, (h2z K ++ List.replicate 148 none).length, h2z K ++ List.replicate 148 none) := by kernel_rfl
theorem wSn (T : RR) (K : List Int) (c : Nat) : ((mk Try.prog (KR T) 200).call 15 [sl 0 0 none 16 c, .slice none 0 0] (smSt 1 (h2n K) (oSm 0))).map (fun r => (r.1, r.2.obl, r.2.next, keepL ([true] ++ List.replicate 148 false) r.2.heap.get 0)) = some (row16 (xLr T K [] 0 (T.sn (kR K)) Z0 0 0), pS3 T K [] 0, (h2n K ++ List.replicate 148 none).length, h2n K ++ List.replicate 148 none) := by kernel_rfl
theorem pSm_ok {K M : List Int} (hK : OkK K) : ∀ j, j <= M.length -> pSm RR0 K M j
 | 0, _ => ⟨trivial, rfl, by rw [kR_eq hK.1]; exact hK⟩
 | j + 1, h => ⟨pSm_ok hK j (by omega), by rw [kk_eq]; omega⟩
theorem pS3_ok {K M : List Int} (hK : OkK K) : pS3 RR0 K M M.length := ⟨⟨⟨pSm_ok hK _ (Nat.le_refl _), rfl⟩, rfl⟩, rfl, by rw [kR_eq hK.1]; exact hK⟩
theorem xLr0_eq {K M : List Int} (hK : K.length = 16) {r : Nat} (h1 : r < 16) (hM : M.length = r) {j : Nat} (hj : j < 16) : xLr RR0 K M 0 (RR0.sn (kR K)) Z0 0 r j = tagF K M j := by
 rw [kR_eq hK]
 rcases Nat.eq_zero_or_pos r with h0 | h0
 ·subst h0
  obtain rfl := List.length_eq_zero_iff.1 hM
  unfold xLr
  rw [kR_eq hK]
  show mkF BOX (ksF BOX (keyOf K)) (intAt (R16 (keyF (intAt (R16 Z0)) (intAt (R16 (keyF (intAt (R16 (lB [] 0 0 0))) (intAt (R16 (snd K))))))))) j = mkF BOX (ksF BOX (keyOf K)) (keyF Z0 (keyF (lst [] 0) (by' (fst K) (snd K) 0))) j
  refine mkF_congr (fun _ _ => rfl) (fun j hj => ?_) j hj
  rw [at16 hj]
  refine keyF_congr (at16 hj) ((at16 hj).trans (keyF_congr ((at16 hj).trans ?_) (at16 hj)))
  unfold lB lst
  rw [if_neg (Nat.not_lt_zero _), if_neg (Nat.not_lt_zero _)]
 ·have := xE_eq (K := K) (M := M) hK (f1 := fst K) (f2 := snd K) (Q := 0) h0 (by omega) (by omega) (fun _ _ => rfl) (fun _ _ => rfl) hj
  rw [← this]; unfold xE; rw [if_neg (by omega)]; rfl
theorem xL160_eq {K M : List Int} (hK : K.length = 16) (hM : M.length = 16) {j : Nat} (hj : j < 16) : xL16 RR0 K M 0 (RR0.fs (kR K)) Z0 0 j = tagF K M j := by
 rw [kR_eq hK]
 have := xE_eq (K := K) (M := M) hK (f1 := fst K) (f2 := snd K) (Q := 0) (r := 16) (by omega) (by omega) (by omega) (fun _ _ => rfl) (fun _ _ => rfl) hj
 rw [← this]; unfold xE; rw [if_pos rfl]; rfl
def H148 (l : List (Option Ob)) : List (Option Ob) := l ++ List.replicate 148 none
theorem rtag_small (K M : List Int) (c d : Nat) (hK : OkK K) : ∀ n, M.length = n -> n <= 16 -> CallOk Try.prog 15 [sl 0 0 none 16 c, sl 1 0 none n d] (smSt 2 (h2 K M) []) (row16 (tagF K M)) (smSt 2 (H148 (h2 K M)) [])
 | 0, hM, _ => by
  have := frame_by pg (KR_ok RR0) _ (wS0 RR0 K c M d) (by have := pS3_ok (M := M) hK; rw [hM] at this; exact this) (by rfl) rfl
  rw [row16_congr (fun j hj => xLr0_eq hK.1 (by omega) hM hj)] at this; exact this
 | 1, hM, _ => by
  have := frame_by pg (KR_ok RR0) _ (wS1 RR0 K c M d) (by have := pS3_ok (M := M) hK; rw [hM] at this; exact this) (by rfl) rfl
  rw [row16_congr (fun j hj => xLr0_eq hK.1 (by omega) hM hj)] at this; exact this
 | 2, hM, _ => by
  have := frame_by pg (KR_ok RR0) _ (wS2 RR0 K c M d) (by have := pS3_ok (M := M) hK; rw [hM] at this; exact this) (by rfl) rfl
  rw [row16_congr (fun j hj => xLr0_eq hK.1 (by omega) hM hj)] at this; exact this
 | 3, hM, _ => by
  have := frame_by pg (KR_ok RR0) _ (wS3 RR0 K c M d) (by have := pS3_ok (M := M) hK; rw [hM] at this; exact this) (by rfl) rfl
  rw [row16_congr (fun j hj => xLr0_eq hK.1 (by omega) hM hj)] at this; exact this
 | 4, hM, _ => by
  have := frame_by pg (KR_ok RR0) _ (wS4 RR0 K c M d) (by have := pS3_ok (M := M) hK; rw [hM] at this; exact this) (by rfl) rfl
  rw [row16_congr (fun j hj => xLr0_eq hK.1 (by omega) hM hj)] at this; exact this
 | 5, hM, _ => by
  have := frame_by pg (KR_ok RR0) _ (wS5 RR0 K c M d) (by have := pS3_ok (M := M) hK; rw [hM] at this; exact this) (by rfl) rfl
  rw [row16_congr (fun j hj => xLr0_eq hK.1 (by omega) hM hj)] at this; exact this
 | 6, hM, _ => by
  have := frame_by pg (KR_ok RR0) _ (wS6 RR0 K c M d) (by have := pS3_ok (M := M) hK; rw [hM] at this; exact this) (by rfl) rfl
  rw [row16_congr (fun j hj => xLr0_eq hK.1 (by omega) hM hj)] at this; exact this
 | 7, hM, _ => by
  have := frame_by pg (KR_ok RR0) _ (wS7 RR0 K c M d) (by have := pS3_ok (M := M) hK; rw [hM] at this; exact this) (by rfl) rfl
  rw [row16_congr (fun j hj => xLr0_eq hK.1 (by omega) hM hj)] at this; exact this
 | 8, hM, _ => by
  have := frame_by pg (KR_ok RR0) _ (wS8 RR0 K c M d) (by have := pS3_ok (M := M) hK; rw [hM] at this; exact this) (by rfl) rfl
  rw [row16_congr (fun j hj => xLr0_eq hK.1 (by omega) hM hj)] at this; exact this
 | 9, hM, _ => by
  have := frame_by pg (KR_ok RR0) _ (wS9 RR0 K c M d) (by have := pS3_ok (M := M) hK; rw [hM] at this; exact this) (by rfl) rfl
  rw [row16_congr (fun j hj => xLr0_eq hK.1 (by omega) hM hj)] at this; exact this
 | 10, hM, _ => by
  have := frame_by pg (KR_ok RR0) _ (wS10 RR0 K c M d) (by have := pS3_ok (M := M) hK; rw [hM] at this; exact this) (by rfl) rfl
  rw [row16_congr (fun j hj => xLr0_eq hK.1 (by omega) hM hj)] at this; exact this
 | 11, hM, _ => by
  have := frame_by pg (KR_ok RR0) _ (wS11 RR0 K c M d) (by have := pS3_ok (M := M) hK; rw [hM] at this; exact this) (by rfl) rfl
  rw [row16_congr (fun j hj => xLr0_eq hK.1 (by omega) hM hj)] at this; exact this
 | 12, hM, _ => by
  have := frame_by pg (KR_ok RR0) _ (wS12 RR0 K c M d) (by have := pS3_ok (M := M) hK; rw [hM] at this; exact this) (by rfl) rfl
  rw [row16_congr (fun j hj => xLr0_eq hK.1 (by omega) hM hj)] at this; exact this
 | 13, hM, _ => by
  have := frame_by pg (KR_ok RR0) _ (wS13 RR0 K c M d) (by have := pS3_ok (M := M) hK; rw [hM] at this; exact this) (by rfl) rfl
  rw [row16_congr (fun j hj => xLr0_eq hK.1 (by omega) hM hj)] at this; exact this
 | 14, hM, _ => by
  have := frame_by pg (KR_ok RR0) _ (wS14 RR0 K c M d) (by have := pS3_ok (M := M) hK; rw [hM] at this; exact this) (by rfl) rfl
  rw [row16_congr (fun j hj => xLr0_eq hK.1 (by omega) hM hj)] at this; exact this
 | 15, hM, _ => by
  have := frame_by pg (KR_ok RR0) _ (wS15 RR0 K c M d) (by have := pS3_ok (M := M) hK; rw [hM] at this; exact this) (by rfl) rfl
  rw [row16_congr (fun j hj => xLr0_eq hK.1 (by omega) hM hj)] at this; exact this
 | 16, hM, _ => by
  have := frame_by pg (KR_ok RR0) _ (wS16 RR0 K c M d) (by have := pS3_ok (M := M) hK; rw [hM] at this; exact this) (by rfl) rfl
  rw [row16_congr (fun j hj => xL160_eq hK.1 hM hj)] at this; exact this
 | n + 17, _, h => absurd h (by omega)
theorem mD_eq {n Q r : Nat} (hr : 0 < r) (hr' : r <= 16) (e : 16 * Q + r = n) (hn : n <= 1000000) : mD n = ((Q + 1 : Nat) : Int) := by
 unfold mD
 have : ((n : Int) + 15).tdiv 16 = ((Q + 1 : Nat) : Int) := by
  rw [Int.tdiv_eq_ediv_of_nonneg (by omega)]; omega
 rw [this, IntKind.wrap_i64]; omega
theorem rtag_ok (K M : List Int) (c n d : Nat) (hK : OkK K) (hM : M.length = n) (hn : n <= 1000000) : CallOk Try.prog 15 [sl 0 0 none 16 c, sl 1 0 none n d] (smSt 2 (h2 K M) []) (row16 (tagF K M)) (smSt 2 (H148 (h2 K M)) []) := by
 rcases Nat.lt_or_ge 16 n with h | h
 ·obtain ⟨Q, r, hr, hr', e⟩ : ∃ Q r, 0 < r /\ r <= 16 /\ 16 * Q + r = n := ⟨(n - 1) / 16, n - 16 * ((n - 1) / 16), by omega, by omega, by omega⟩
  have hm := mD_eq hr hr' e hn
  have lp := fun rd => loopT K c M n d (fst K) (snd K) Q r (by omega) hr hr' e hn hM hK rd
  have ex : row16 (xE K M (fst K) (snd K) Q r) = row16 (tagF K M) := row16_congr fun j hj => xE_eq hK.1 hr hr' (by omega) (fun _ _ => rfl) (fun _ _ => rfl) hj
  have kr := kR_eq hK.1
  have cnd : ∀ S, (∀ rd, CodeOk Try.prog rd (.loop bT) (RE K c M 0 n d ((Q + 1 : Nat) : Int) (fst K) (snd K) Z0 0) (.exit 0) S) -> pBig RR0 K M c n d S := fun S hS => by
   unfold pBig
   rw [hm, kr]
   refine ⟨⟨⟨⟨trivial, rfl, hK⟩, wr_ok (by omega) (by omega)⟩, ?_⟩, hS⟩
   rw [decide_eq_true_eq]; omega
  have e77 : H148 (h2 K M) = (h2 K M ++ List.replicate 77 none) ++ List.replicate 71 none := by
   unfold H148
   rw [List.append_assoc, List.replicate_append_replicate]
  rw [e77, ← ex]
  by_cases h16 : r = 16
  ·subst h16
   have := frame_by pg (KRA_ok RR0 _) _ (wT16 RR0 K c M n d ((Q + 1 : Nat) : Int) (xE K M (fst K) (snd K) Q 16) ((Q : Int) + 1)) (cnd _ (by show ∀ rd, CodeOk Try.prog rd _ _ _ (RX16 K c M 0 n d ((Q + 1 : Nat) : Int) (fst (kR K)) (snd (kR K)) _ _); rw [kr]; exact lp)) (by rfl) rfl
   exact this.pad 71 (by simp [h2]) (by simp [h2]) (by simp [h2])
  ·have eX : RX r = RXr := if_neg h16
   rw [eX] at lp
   have := frame_by pg (KRA_ok RR0 _) _ (wT RR0 K c M n d ((Q + 1 : Nat) : Int) (xE K M (fst K) (snd K) Q r) ((Q : Int) + 1)) (cnd _ (by show ∀ rd, CodeOk Try.prog rd _ _ _ (RXr K c M 0 n d ((Q + 1 : Nat) : Int) (fst (kR K)) (snd (kR K)) _ _); rw [kr]; exact lp)) (by rfl) rfl
   exact this.pad 71 (by simp [h2]) (by simp [h2]) (by simp [h2])
 ·exact rtag_small K M c d hK n hM h
theorem rtagz_ok (K : List Int) (c d : Nat) (hK : OkK K) : CallOk Try.prog 15 [sl 0 0 none 16 c, sl 1 0 none 0 d] (smSt 2 (h2z K) []) (row16 (tagF K [])) (smSt 2 (H148 (h2z K)) []) := by
 have := frame_by pg (KR_ok RR0) _ (wSz RR0 K c d) (pS3_ok (M := []) hK) (by rfl) rfl
 rw [row16_congr (fun j hj => xLr0_eq (M := []) (r := 0) hK.1 (by omega) rfl hj)] at this; exact this
theorem rtagn_ok (K : List Int) (c : Nat) (hK : OkK K) : CallOk Try.prog 15 [sl 0 0 none 16 c, .slice none 0 0] (smSt 1 (h2n K) []) (row16 (tagF K [])) (smSt 1 (H148 (h2n K)) []) := by
 have := frame_by pg (KR_ok RR0) _ (wSn RR0 K c) (pS3_ok (M := []) hK) (by rfl) rfl
 rw [row16_congr (fun j hj => xLr0_eq (M := []) (r := 0) hK.1 (by omega) rfl hj)] at this; exact this
abbrev GT := List Int -> List Int -> Nat -> Int
def wd (K : List Int) (o n : Nat) : List Int := (K.drop o).take n
def okA (K M : List Int) (n : Nat) : Prop := OkK K /\ M.length = n /\ n <= 1000
def pd (k : Nat) (l : List (Option Ob)) : List (Option Ob) := l ++ List.replicate k none
def FQ (F0 : FuncId) (V : (Nat -> Int) -> Value) (k : Nat) (TG : GT) (f : FuncId) (args : List Value) (s : St) : Option Inst := if f == F0 then (match args with
 | [.slice (some ⟨b, o, none⟩) 16 c, .slice (some ⟨z, q, none⟩) n d] => (match s.heap.get b with
  | some (.cells (.ints .u8 K) _) => (match s.heap.get z with
   | some (.cells (.ints .u8 M) _) => some ⟨[(b, o), (z, q)], 2, h2 (wd K o 16) (wd M q n), [sl 0 0 none 16 c, sl 1 0 none n d], V (TG (wd K o 16) (wd M q n)), pd k (h2 (wd K o 16) (wd M q n)), TG = tagF /\ okA (wd K o 16) (wd M q n) n⟩
   | none => if n = 0 then some ⟨[(b, o), (z, q)], 2, h2z (wd K o 16), [sl 0 0 none 16 c, sl 1 0 none 0 d], V (TG (wd K o 16) []), pd k (h2z (wd K o 16)), TG = tagF /\ OkK (wd K o 16)⟩ else none
   | _ => none)
  | _ => none)
 | [.slice (some ⟨b, o, none⟩) 16 c, .slice none 0 0] => (match s.heap.get b with
  | some (.cells (.ints .u8 K) _) => some ⟨[(b, o)], 1, h2n (wd K o 16), [sl 0 0 none 16 c, .slice none 0 0], V (TG (wd K o 16) []), pd k (h2n (wd K o 16)), TG = tagF /\ OkK (wd K o 16)⟩
  | _ => none)
 | _ => none) else none
def okW (s : St) (b o n : Nat) (k : Option Ob) : Prop := ∀ ob, k = some ob -> ∃ K tb, ob = Ob.cells (.ints .u8 ((K.drop o).take n)) 5 /\ s.heap.get b = some (.cells (.ints .u8 K) tb)
theorem fit2 {s : St} {b o z q n c m d : Nat} {i : Inst} {k w : Option Ob} (hw : i.win = [(b, o), (z, q)]) (hh : i.heap = [k, w]) (ha : i.args = [sl 0 0 none n c, sl 1 0 none m d]) (hk : okW s b o n k) (hz : okW s z q m w) :
  Fits s i [.slice (some ⟨b, o, none⟩) n c, .slice (some ⟨z, q, none⟩) m d] := by
 have e0 : i.nu s.next 0 = b := by unfold Inst.nu; rw [hw]; rfl
 have e2 : i.nu s.next 1 = z := by unfold Inst.nu; rw [hw]; rfl
 have d0 : i.del 0 = o := by unfold Inst.del; rw [hw]; rfl
 have d2 : i.del 1 = q := by unfold Inst.del; rw [hw]; rfl
 refine ⟨?_, fun j pp ob h1 h2 => ?_⟩
 ·rw [ha]
  show [Value.slice (some ⟨b, o, none⟩) n c, .slice (some ⟨z, q, none⟩) m d] = [Value.slice (some ⟨i.nu s.next 0, addO (i.del 0) 0, none⟩) n c, .slice (some ⟨i.nu s.next 1, addO (i.del 1) 0, none⟩) m d]
  rw [e0, e2, d0, d2, addO_eq, addO_eq]; rfl
 ·rw [hw] at h1
  rw [hh] at h2
  rcases j with _ | _ | j
  ·simp only [List.getElem?_cons_zero, Option.some.injEq] at h1 h2
   subst h1
   obtain ⟨K, tb, rfl, hb⟩ := hk ob h2
   exact ⟨_, hb, fit_ints⟩
  ·simp only [Nat.zero_add, List.getElem?_cons_succ, List.getElem?_cons_zero, Option.some.injEq] at h1 h2
   subst h1
   obtain ⟨M, tb, rfl, hb⟩ := hz ob h2
   exact ⟨_, hb, fit_ints⟩
  ·simp at h1
theorem FQ_ok {F0 : FuncId} {V : (Nat -> Int) -> Value} {k : Nat} {TG : GT}
  (hI : ∀ K M c n d, okA K M n -> CallOk Try.prog F0 [sl 0 0 none 16 c, sl 1 0 none n d] (smSt 2 (h2 K M) []) (V (tagF K M)) (smSt 2 (pd k (h2 K M)) []))
  (hZ : ∀ K c d, OkK K -> CallOk Try.prog F0 [sl 0 0 none 16 c, sl 1 0 none 0 d] (smSt 2 (h2z K) []) (V (tagF K [])) (smSt 2 (pd k (h2z K)) []))
  (hN : ∀ K c, OkK K -> CallOk Try.prog F0 [sl 0 0 none 16 c, .slice none 0 0] (smSt 1 (h2n K) []) (V (tagF K [])) (smSt 1 (pd k (h2n K)) []))
  (f : FuncId) (args : List Value) (s : St) (i : Inst) (h : FQ F0 V k TG f args s = some i) : Fits s i args /\ (i.ask -> CallOk Try.prog f i.args i.s0 i.val i.s1) := by
 unfold FQ at h
 split at h
 ·rename_i hf
  have hf' : f = F0 := by simpa using hf
  subst hf'
  split at h
  ·rename_i b o c z q n d
   split at h
   ·rename_i K tk hb
    split at h
    ·rename_i M tm hz
     cases h
     refine ⟨fit2 rfl rfl rfl (fun ob e => by cases e; exact ⟨_, _, rfl, hb⟩) (fun ob e => by cases e; exact ⟨_, _, rfl, hz⟩), fun ha => ?_⟩
     obtain ⟨rfl, ha⟩ := ha
     exact hI _ _ c n d ha
    ·split at h
     ·rename_i hn
      subst hn
      cases h
      refine ⟨fit2 rfl rfl rfl (fun ob e => by cases e; exact ⟨_, _, rfl, hb⟩) (fun ob e => by cases e), fun ha => ?_⟩
      obtain ⟨rfl, ha⟩ := ha
      exact hZ _ c d ha
     ·cases h
    ·cases h
   ·cases h
  ·rename_i b o c
   split at h
   ·rename_i K tk hb
    cases h
    refine ⟨fit_win hb rfl rfl rfl rfl, fun ha => ?_⟩
    obtain ⟨rfl, ha⟩ := ha
    exact hN _ c ha
   ·cases h
  ·cases h
 ·cases h
theorem q15 (TG : GT) : ∀ (f : FuncId) (args : List Value) (s : St) (i : Inst), FQ 15 row16 148 TG f args s = some i -> Fits s i args /\ (i.ask -> CallOk Try.prog f i.args i.s0 i.val i.s1) := FQ_ok (F0 := 15) (V := row16) (k := 148) (TG := TG) (fun K M c n d h => rtag_ok K M c n d h.1 h.2.1 (by have := h.2.2; omega)) (fun K c d h => rtagz_ok K c d h) (fun K c h => rtagn_ok K c h)
theorem wdK {K : List Int} (h : K.length = 16) : wd K 0 16 = K := kW_eq h
def FP (F0 : FuncId) (V : (Nat -> Int) -> Value) (k kz : Nat) (TG : GT) (f : FuncId) (args : List Value) (s : St) : Option Inst := if f == F0 then (match args with
 | [.slice (some ⟨b, o, g⟩) 16 c, .slice (some ⟨p, 0, none⟩) 1 1] => if gOk g then (match s.heap.get b with
  | some (.cells (.ints .u8 K) _) => (match s.heap.get p with
   | some (.cells (.lit [.slice (some ⟨z, q, some 1⟩) n d]) _) => (match s.heap.get z with
    | some (.cells (.ints .u8 M) _) => some ⟨[(b, o), (p, 0), (z, q)], 3, hT (wd K o 16) (some 1) n d (wd M q n), [sl 0 0 g 16 c, sl 1 0 none 1 1], .tuple #[V (TG (wd K o 16) (wd M q n)), .int .i64 0], pd k (hT (wd K o 16) (some 1) n d (wd M q n)), TG = tagF /\ okA (wd K o 16) (wd M q n) n /\ 0 < n /\ n <= d⟩
    | some (.cells (.lit _) _) => if n = 0 then some ⟨[(b, o), (p, 0), (z, q)], 3, hTz (wd K o 16) (some 1) d, [sl 0 0 g 16 c, sl 1 0 none 1 1], .tuple #[V (TG (wd K o 16) []), .int .i64 0], pd kz (hTz (wd K o 16) (some 1) d), TG = tagF /\ OkK (wd K o 16)⟩ else none
    | _ => none)
   | _ => none)
  | _ => none) else none
 | _ => none) else none
theorem fit_part {s : St} {b o p z q m d : Nat} {g : Option Nat} {i : Inst} {tp : TypeId} {k w : Option Ob} {n c : Nat} {g0 : Option Nat}
  (hp : s.heap.get p = some (.cells (.lit [.slice (some ⟨z, q, g⟩) m d]) tp)) (hw : i.win = [(b, o), (p, 0), (z, q)]) (hh : i.heap = [k, pt g m d, w]) (ha : i.args = [.slice (some ⟨0, 0, g0⟩) n c, sl 1 0 none 1 1])
  (hk : okW s b o n k) (hz : okW s z q m w) (ga : isAbs g = false) (ga0 : isAbs g0 = false) :
  Fits s i [.slice (some ⟨b, o, g0⟩) n c, .slice (some ⟨p, 0, none⟩) 1 1] := by
 have e0 : i.nu s.next 0 = b := by unfold Inst.nu; rw [hw]; rfl
 have e1 : i.nu s.next 1 = p := by unfold Inst.nu; rw [hw]; rfl
 have e2 : i.nu s.next 2 = z := by unfold Inst.nu; rw [hw]; rfl
 have d0 : i.del 0 = o := by unfold Inst.del; rw [hw]; rfl
 have d1 : i.del 1 = 0 := by unfold Inst.del; rw [hw]; rfl
 have d2 : i.del 2 = q := by unfold Inst.del; rw [hw]; rfl
 refine ⟨?_, fun j pp ob h1 h2 => ?_⟩
 ·rw [ha]
  show [Value.slice (some ⟨b, o, g0⟩) n c, .slice (some ⟨p, 0, none⟩) 1 1] = [mv _ _ (Value.slice (some ⟨0, 0, g0⟩) n c), .slice (some ⟨i.nu s.next 1, addO (i.del 1) 0, none⟩) 1 1]
  rw [mv_sl _ _ ga0, e0, e1, d0, d1, addO_eq]; rfl
 ·rw [hw] at h1
  rw [hh] at h2
  rcases j with _ | _ | _ | j
  ·simp only [List.getElem?_cons_zero, Option.some.injEq] at h1 h2
   subst h1
   obtain ⟨K, tb, rfl, hb⟩ := hk ob h2
   exact ⟨_, hb, fit_ints⟩
  ·simp only [Nat.zero_add, List.getElem?_cons_succ, List.getElem?_cons_zero, Option.some.injEq] at h1
   subst h1
   simp only [pt, Nat.zero_add, List.getElem?_cons_succ, List.getElem?_cons_zero, Option.some.injEq] at h2
   subst h2
   refine ⟨_, hp, fit_one (V := .slice (some ⟨z, q, g⟩) m d) rfl ?_ (by rw [hw]; exact okN_sl ga (show 2 < 3 by decide))⟩
   unfold sl
   rw [mv_sl _ _ ga, e2, d2, addO_eq]; rfl
  ·simp only [Nat.zero_add, Nat.reduceAdd, List.getElem?_cons_succ, List.getElem?_cons_zero, Option.some.injEq] at h1 h2
   subst h1
   obtain ⟨M, tb, rfl, hb⟩ := hz ob h2
   exact ⟨_, hb, fit_ints⟩
  ·simp at h1
theorem FP_ok {F0 : FuncId} {V : (Nat -> Int) -> Value} {k kz : Nat} {TG : GT}
  (hI : ∀ K M c g n d, gOk g = true -> okA K M n -> 0 < n -> n <= d -> CallOk Try.prog F0 [sl 0 0 g 16 c, sl 1 0 none 1 1] (smSt 3 (hT K (some 1) n d M) []) (.tuple #[V (tagF K M), .int .i64 0]) (smSt 3 (pd k (hT K (some 1) n d M)) []))
  (hZ : ∀ K c g d, gOk g = true -> OkK K -> CallOk Try.prog F0 [sl 0 0 g 16 c, sl 1 0 none 1 1] (smSt 3 (hTz K (some 1) d) []) (.tuple #[V (tagF K []), .int .i64 0]) (smSt 3 (pd kz (hTz K (some 1) d)) []))
  (f : FuncId) (args : List Value) (s : St) (i : Inst) (h : FP F0 V k kz TG f args s = some i) : Fits s i args /\ (i.ask -> CallOk Try.prog f i.args i.s0 i.val i.s1) := by
 unfold FP at h
 split at h
 ·rename_i hf
  have hf' : f = F0 := by simpa using hf
  subst hf'
  split at h
  ·rename_i b o g c p
   split at h
   ·rename_i hg
    split at h
    ·rename_i K tk hb
     split at h
     ·rename_i z q n d tp hp
      split at h
      ·rename_i M tm hz
       cases h
       refine ⟨fit_part hp rfl rfl rfl (fun ob e => by cases e; exact ⟨_, _, rfl, hb⟩) (fun ob e => by cases e; exact ⟨_, _, rfl, hz⟩) rfl (gOk_abs hg), fun ha => ?_⟩
       obtain ⟨rfl, ha, h1, h2⟩ := ha
       exact hI _ _ c g n d hg ha h1 h2
      ·split at h
       ·rename_i hn
        subst hn
        cases h
        refine ⟨fit_part hp rfl rfl rfl (fun ob e => by cases e; exact ⟨_, _, rfl, hb⟩) (fun ob e => by cases e) rfl (gOk_abs hg), fun ha => ?_⟩
        obtain ⟨rfl, ha⟩ := ha
        exact hZ _ c g d hg ha
       ·cases h
      ·cases h
     ·cases h
    ·cases h
   ·cases h
  ·cases h
 ·cases h
def F9w (f : FuncId) (args : List Value) (_ : St) : Option Inst := if f == 9 then (match args with
 | [] => some (flI [] (.bool true) True)
 | _ => none) else none
theorem F9w_ok (f : FuncId) (args : List Value) (s : St) (i : Inst) (h : F9w f args s = some i) : Fits s i args /\ (i.ask -> CallOk Try.prog f i.args i.s0 i.val i.s1) := by
 unfold F9w at h
 split at h
 ·rename_i hf
  have hf' : f = 9 := by simpa using hf
  subst hf'
  split at h
  ·cases h
   exact flI_ok rfl rfl fun _ W => known W
  ·cases h
 ·cases h
end
end ae
end Go.Proofs.Ytkcngffpnnlmeaa
