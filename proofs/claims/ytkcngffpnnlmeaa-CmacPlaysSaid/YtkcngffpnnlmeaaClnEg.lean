/- Read off the code by the clean reading. -/
import Derived.Test.YtkcngffpnnlmeaaClnEf
set_option linter.unusedVariables false
set_option linter.unusedSimpArgs false
set_option linter.deprecated false
set_option maxRecDepth 100000
namespace Go.Proofs.Ytkcngffpnnlmeaa
open Go.ChangeShapes Go.WideShapes Go.ChangeAt Go.RowKit Go.Cln
namespace ae
noncomputable section
def R4 (f : Nat -> Int) : LV := rowV .u8 4 f
def row4 (f : Nat -> Int) : Value := .agg (rowV .u8 4 f).toArray
def isN (n : Nat) (x : Array Value) : Bool := decide (x.toList.length = n) && x.toList.all (isKind .u8)
theorem isN_row {n : Nat} {x : Array Value} (h : isN n x = true) : x = (rowV .u8 n (intAt x.toList)).toArray := by
 unfold isN at h
 rw [Bool.and_eq_true, decide_eq_true_eq] at h
 rw [rowV_of h.1 h.2]
structure RT where
 mul : Int -> Int -> Int
 mix : LV -> Nat -> Int
 add : LV -> LV -> Nat -> Int
 rnd : Bool -> LV -> LV -> LV -> Nat -> Int
 ps : LV -> LV -> Prop
def FM1 (M : Int -> Int -> Int) (f : FuncId) (args : List Value) (s : St) : Option Inst := match args with
 | [.int .u8 a, .int .u8 b] => if f == 71 then some (flI [.int .u8 a, .int .u8 b] (.int .u8 (M a b)) (M = mulR)) else none
 | _ => none
theorem FM1_ok (M : Int -> Int -> Int) (f : FuncId) (args : List Value) (s : St) (i : Inst) (h : FM1 M f args s = some i) : Fits s i args /\ (i.ask -> CallOk Try.prog f i.args i.s0 i.val i.s1) := by
 unfold FM1 at h
 split at h
 ·rename_i a b
  split at h
  ·rename_i hf
   have hf' : f = 71 := by simpa using hf
   subst hf'; cases h
   refine flI_ok rfl rfl fun hT W => ?_
   subst hT
   exact mul_ok a b W
  ·cases h
 ·cases h
def mixR (M : Int -> Int -> Int) (c : Nat -> Int) : Nat -> Int
 | 0 => xr8 (xr8 (xr8 (M 2 (c 0)) (M 3 (c 1))) (c 2)) (c 3)
 | 1 => xr8 (xr8 (xr8 (c 0) (M 2 (c 1))) (M 3 (c 2))) (c 3)
 | 2 => xr8 (xr8 (xr8 (c 0) (c 1)) (M 2 (c 2))) (M 3 (c 3))
 | _ => xr8 (xr8 (xr8 (M 3 (c 0)) (c 1)) (c 2)) (M 2 (c 3))
def K71 (M : Int -> Int -> Int) : Given := Given.frames Given.nothing (FM1 M)
theorem K71_ok (M : Int -> Int -> Int) : GivenOk Try.prog (K71 M) := (GivenOk.nothing _).frames (FM1_ok M)
theorem run72 (M : Int -> Int -> Int) (c : Nat -> Int) : ((mk Try.prog (K71 M) 100).call 72 [row4 c] (St.start 0 .leaf [])).map (fun r => (r.1, r.2.obl)) = some (row4 (mixR M c), pBx (M = mulR) 8) := by kernel_rfl
theorem run59 (b k : Nat -> Int) : ((mk Try.prog Given.nothing 100).call 59 [row16 b, row16 k] (St.start 0 .leaf [])).map (fun r => (r.1, r.2.obl)) = some (row16 (keyF b k), True) := by kernel_rfl
def FMA (T : RT) (f : FuncId) (args : List Value) (s : St) : Option Inst := match args with
 | [.agg x] => if f == 72 then (if isN 4 x then some (flI [.agg x] (row4 (T.mix x.toList)) (T.mix = fun x => mixR mulR (intAt x))) else none) else none
 | [.agg x, .agg y] => if f == 59 then (if is16 x && is16 y then some (flI [.agg x, .agg y] (row16 (T.add x.toList y.toList)) (T.add = fun x y => keyF (intAt x) (intAt y))) else none) else none
 | _ => none
theorem FMA_ok (T : RT) (f : FuncId) (args : List Value) (s : St) (i : Inst) (h : FMA T f args s = some i) : Fits s i args /\ (i.ask -> CallOk Try.prog f i.args i.s0 i.val i.s1) := by
 unfold FMA at h
 split at h
 ·rename_i x
  split at h
  ·rename_i hf
   have hf' : f = 72 := by simpa using hf
   subst hf'
   split at h
   ·rename_i hc
    have ex := isN_row hc
    cases h
    refine flI_ok (by rw [ex]; rfl) rfl fun hT W => ?_
    rw [hT]
    have := ranF pg (K71_ok mulR) (run72 mulR (intAt x.toList)) (pBx_ok rfl 8) rfl rfl W
    unfold row4 at this
    rw [← ex] at this; exact this
   ·cases h
  ·cases h
 ·rename_i x y
  split at h
  ·rename_i hf
   have hf' : f = 59 := by simpa using hf
   subst hf'
   split at h
   ·rename_i hc
    rw [Bool.and_eq_true] at hc
    have ex := is16_row hc.1
    have ey := is16_row hc.2
    cases h
    refine flI_ok (by rw [ex, ey]; rfl) rfl fun hT W => ?_
    rw [hT]
    have := ranF pg (GivenOk.nothing _) (run59 (intAt x.toList) (intAt y.toList)) trivial rfl rfl W
    unfold row16 at this
    rw [← ex, ← ey] at this; exact this
   ·cases h
  ·cases h
 ·cases h
def KMA (T : RT) : Given := Given.frames Given.nothing (FMA T)
theorem KMA_ok (T : RT) : GivenOk Try.prog (KMA T) := (GivenOk.nothing _).frames (FMA_ok T)
def famI (g : Nat -> Int) : Nat -> Nat -> List Int
 | _, 0 => []
 | o, n + 1 => g o :: famI g (o + 1) n
def row256 (g : Nat -> Int) : Value := .agg (rowV .u8 256 g).toArray
def ixR (i : Nat) : Nat := 4 * ((i / 4 + i % 4) % 4) + i % 4
def shR (g b : Nat -> Int) (i : Nat) : Int := (famI g 0 256).getD (0 + (b (ixR i)).toNat * 1) 0
def mvR (T : RT) (g b : Nat -> Int) (i : Nat) : Int := T.mix (R4 fun r => shR g b (4 * (i / 4) + r)) (i % 4)
def cndR (g b : Nat -> Int) : Nat -> Prop
 | 0 => True
 | i + 1 => (cndR g b i /\ (0 <= b (ixR i) /\ b (ixR i) < ((256 : Nat) : Int))) /\ 0 + (b (ixR i)).toNat * 1 < (famI g 0 256).length
def pRf (T : RT) (g b : Nat -> Int) : Prop := ((((cndR g b 16 /\ T.mix = fun x => mixR mulR (intAt x)) /\ T.mix = fun x => mixR mulR (intAt x)) /\ T.mix = fun x => mixR mulR (intAt x)) /\ T.mix = fun x => mixR mulR (intAt x)) /\ T.add = fun x y => keyF (intAt x) (intAt y)
def pRt (T : RT) (g b : Nat -> Int) : Prop := cndR g b 16 /\ T.add = fun x y => keyF (intAt x) (intAt y)
def oRf : List (Option Bool) := [none, none, none, some true, some true, none, none, none, some true, some true, none, none, none, some true, some true, none, none, none, some true, some true] ++ (nn 5 ++ ([some true, some true, none, none, none, some true, some true, none, none, none, some true, some true, none, none, none, some true, some true] ++ (nn 5 ++ ([some true, some true, none, none, none, some true, some true, none, none, none, some true, some true, none, none, none, some true, some true] ++ (nn 5 ++ ([some true, some true, none, none, none, some true, some true, none, none, none, some true, some true, none, none, none, some true, some true]))))))
def oRt : List (Option Bool) := [none, none, none, some true, some true, none, none, none, some true, some true, none, none, none, some true, some true, none, none, none, some true, some true] ++ (nn 5 ++ ([some true, some true, none, none, none, some true, some true, none, none, none, some true, some true, none, none, none, some true, some true] ++ (nn 5 ++ ([some true, some true, none, none, none, some true, some true, none, none, none, some true, some true, none, none, none, some true, some true] ++ (nn 5 ++ ([some true, some true, none, none, none, some true, some true, none, none, none, some true, some true, none, none, none, some true, some true]))))))
theorem run60f (T : RT) (b k g : Nat -> Int) : ((mk Try.prog (KMA T) 100).call 60 [row16 b, row16 k, .bool false, row256 g] (St.start 0 .leaf oRf)).map (fun r => (r.1, r.2.obl)) = some (row16 (T.add (R16 (mvR T g b)) (R16 k)), pRf T g b) := by kernel_rfl
theorem run60t (T : RT) (b k g : Nat -> Int) : ((mk Try.prog (KMA T) 100).call 60 [row16 b, row16 k, .bool true, row256 g] (St.start 0 .leaf oRt)).map (fun r => (r.1, r.2.obl)) = some (row16 (T.add (R16 (shR g b)) (R16 k)), pRt T g b) := by kernel_rfl
structure RM where
 g : Nat -> Int
 mul : Int -> Int -> Int
 add : LV -> LV -> Nat -> Int
 rnd : Bool -> LV -> LV -> LV -> Nat -> Int
 ps : LV -> LV -> Prop
def gR (j : Nat) : Int := boxR (IntKind.u8.wrap (j : Int))
def mvF (g b : Nat -> Int) (i : Nat) : Int := mixR mulR (fun r => shR g b (4 * (i / 4) + r)) (i % 4)
def RM0 : RM := ⟨gR, mulR, fun x y => keyF (intAt x) (intAt y), fun l x y z => match l with | true => keyF (shR (intAt z) (intAt x)) (intAt y) | false => keyF (mvF (intAt z) (intAt x)) (intAt y), fun x z => cndR (intAt z) (intAt x) 16⟩
theorem box_ok (W : World) : Calls Try.prog 56 #[] W fun e w' => e = .returned (row256 gR) /\ Below W.heap.size W w' :=
 ranF pg ((GivenOk.nothing _).frames (FBx_ok boxR)) (runBxs boxR) (pBx_ok rfl 256) rfl rfl W
theorem at4 {f : Nat -> Int} {j : Nat} (h : j < 4) : intAt (R4 f) j = f j := intAt_row h
theorem mixR_congr {M : Int -> Int -> Int} {f g : Nat -> Int} (h : ∀ j, j < 4 -> f j = g j) (i : Nat) : mixR M f i = mixR M g i := by
 have h0 := h 0 (by decide); have h1 := h 1 (by decide); have h2 := h 2 (by decide); have h3 := h 3 (by decide)
 unfold mixR
 split <;> rw [h0, h1, h2, h3]
def RT0 : RT := ⟨mulR, fun x => mixR mulR (intAt x), fun x y => keyF (intAt x) (intAt y), fun _ _ _ _ _ => 0, fun _ _ => True⟩
theorem rnd_f (b k g : Nat -> Int) (h : cndR g b 16) (W : World) : Calls Try.prog 60 #[row16 b, row16 k, .bool false, row256 g] W fun e w' => e = .returned (row16 (keyF (mvF g b) k)) /\ Below W.heap.size W w' := by
 have := ranF pg (KMA_ok RT0) (run60f RT0 b k g) ⟨⟨⟨⟨⟨h, rfl⟩, rfl⟩, rfl⟩, rfl⟩, rfl⟩ rfl rfl W
 have e : row16 (RT0.add (R16 (mvR RT0 g b)) (R16 k)) = row16 (keyF (mvF g b) k) := by
  have : R16 (keyF (intAt (R16 (mvR RT0 g b))) (intAt (R16 k))) = R16 (keyF (mvF g b) k) := R16_congr fun j h => by
   unfold keyF
   rw [at16 h, at16 h]
   have : mvR RT0 g b j = mvF g b j := mixR_congr (fun r hr => at4 hr) _
   rw [this]
  exact congrArg (fun l => Value.agg l.toArray) this
 rw [e] at this; exact this
theorem rnd_t (b k g : Nat -> Int) (h : cndR g b 16) (W : World) : Calls Try.prog 60 #[row16 b, row16 k, .bool true, row256 g] W fun e w' => e = .returned (row16 (keyF (shR g b) k)) /\ Below W.heap.size W w' := by
 have := ranF pg (KMA_ok RT0) (run60t RT0 b k g) ⟨h, rfl⟩ rfl rfl W
 have e : row16 (RT0.add (R16 (shR g b)) (R16 k)) = row16 (keyF (shR g b) k) := by
  have : R16 (keyF (intAt (R16 (shR g b))) (intAt (R16 k))) = R16 (keyF (shR g b) k) := R16_congr fun j h => by unfold keyF; rw [at16 h, at16 h]
  exact congrArg (fun l => Value.agg l.toArray) this
 rw [e] at this; exact this
def FRM (T : RM) (f : FuncId) (args : List Value) (s : St) : Option Inst := match args with
 | [] => if f == 56 then some (flI [] (row256 T.g) (T = RM0)) else none
 | [.int .u8 a, .int .u8 b] => if f == 71 then some (flI [.int .u8 a, .int .u8 b] (.int .u8 (T.mul a b)) (T = RM0)) else none
 | [.agg x, .agg y] => if f == 59 then (if is16 x && is16 y then some (flI [.agg x, .agg y] (row16 (T.add x.toList y.toList)) (T = RM0)) else none) else none
 | [.agg x, .agg y, .bool l, .agg z] => if f == 60 then (if is16 x && is16 y && isN 256 z then some (flI [.agg x, .agg y, .bool l, .agg z] (row16 (T.rnd l x.toList y.toList z.toList)) (T = RM0 /\ T.ps x.toList z.toList)) else none) else none
 | _ => none
theorem FRM_ok (T : RM) (f : FuncId) (args : List Value) (s : St) (i : Inst) (h : FRM T f args s = some i) : Fits s i args /\ (i.ask -> CallOk Try.prog f i.args i.s0 i.val i.s1) := by
 unfold FRM at h
 split at h
 ·split at h
  ·rename_i hf
   have hf' : f = 56 := by simpa using hf
   subst hf'; cases h
   refine flI_ok rfl rfl fun hT W => ?_
   subst hT
   exact box_ok W
  ·cases h
 ·rename_i a b
  split at h
  ·rename_i hf
   have hf' : f = 71 := by simpa using hf
   subst hf'; cases h
   refine flI_ok rfl rfl fun hT W => ?_
   subst hT
   exact mul_ok a b W
  ·cases h
 ·rename_i x y
  split at h
  ·rename_i hf
   have hf' : f = 59 := by simpa using hf
   subst hf'
   split at h
   ·rename_i hc
    rw [Bool.and_eq_true] at hc
    have ex := is16_row hc.1
    have ey := is16_row hc.2
    cases h
    refine flI_ok (by rw [ex, ey]; rfl) rfl fun hT W => ?_
    subst hT
    have := ranF pg (GivenOk.nothing _) (run59 (intAt x.toList) (intAt y.toList)) trivial rfl rfl W
    unfold row16 at this
    rw [← ex, ← ey] at this; exact this
   ·cases h
  ·cases h
 ·rename_i x y l z
  split at h
  ·rename_i hf
   have hf' : f = 60 := by simpa using hf
   subst hf'
   split at h
   ·rename_i hc
    rw [Bool.and_eq_true, Bool.and_eq_true] at hc
    have ex := is16_row hc.1.1
    have ey := is16_row hc.1.2
    have ez := isN_row hc.2
    cases h
    refine flI_ok (by rw [ex, ey, ez]; rfl) rfl fun hT W => ?_
    obtain ⟨rfl, hp⟩ := hT
    cases l with
    | true =>
     have := rnd_t (intAt x.toList) (intAt y.toList) (intAt z.toList) hp W
     unfold row16 row256 at this
     rw [← ex, ← ey, ← ez] at this; exact this
    | false =>
     have := rnd_f (intAt x.toList) (intAt y.toList) (intAt z.toList) hp W
     unfold row16 row256 at this
     rw [← ex, ← ey, ← ez] at this; exact this
   ·cases h
  ·cases h
 ·cases h
def KRM (T : RM) : Given := Given.frames Given.nothing (FRM T)
theorem KRM_ok (T : RM) : GivenOk Try.prog (KRM T) := (GivenOk.nothing _).frames (FRM_ok T)
def bxR (g k : Nat -> Int) (j : Nat) : Int := (famI g 0 256).getD (0 + (k j).toNat * 1) 0
def colR (g : Nat -> Int) (pw : Int) (k : Nat -> Int) : Nat -> Nat -> Int
 | 0, 0 => xr8 (xr8 (k 0) (bxR g k 13)) pw
 | 0, r + 1 => xr8 (k (r + 1)) (bxR g k (12 + (r + 1 + 1) % 4))
 | c + 1, r => xr8 (colR g pw k c r) (k (4 * (c + 1) + r))
def nxR (g : Nat -> Int) (pw : Int) (k : Nat -> Int) (j : Nat) : Int := colR g pw k (j / 4) (j % 4)
def pwR (M : Int -> Int -> Int) : Nat -> Int
 | 0 => 1
 | n + 1 => M (pwR M n) 2
def krR (M : Int -> Int -> Int) (g key : Nat -> Int) : Nat -> Nat -> Int
 | 0 => key
 | n + 1 => nxR g (pwR M n) (krR M g key n)
def cndK (g k : Nat -> Int) (j : Nat) (p : Prop) : Prop := (p /\ (0 <= k j /\ k j < ((256 : Nat) : Int))) /\ 0 + (k j).toNat * 1 < (famI g 0 256).length
def pBl (p : Prop) (K : List Int) : Nat -> Prop
 | 0 => p
 | i + 1 => pBl p K i /\ i < K.length
def pKR (T : RM) (key : Nat -> Int) (p : Prop) : Nat -> Prop
 | 0 => p
 | n + 1 => cndK T.g (krR T.mul T.g key n) 12 (cndK T.g (krR T.mul T.g key n) 15 (cndK T.g (krR T.mul T.g key n) 14 (cndK T.g (krR T.mul T.g key n) 13 (pKR T key p n)))) /\ T = RM0
def keyOf (K : List Int) (j : Nat) : Int := K.getD j 0
def R256 (g : Nat -> Int) : LV := rowV .u8 256 g
def stRL (T : RM) (key b : Nat -> Int) : Nat -> LV
 | 0 => R16 (T.add (R16 b) (R16 key))
 | n + 1 => R16 (T.rnd false (stRL T key b n) (R16 (krR T.mul T.g key (n + 1))) (R256 T.g))
def mkRL (T : RM) (key b : Nat -> Int) : Nat -> Int := T.rnd true (stRL T key b 9) (R16 (krR T.mul T.g key 10)) (R256 T.g)
def pMR (T : RM) (K : List Int) (b : Nat -> Int) : Nat -> Prop
 | 0 => pKR T (keyOf K) (pBl (True /\ T = RM0) K 16) 10 /\ T = RM0
 | n + 1 => pMR T K b n /\ (T = RM0 /\ T.ps (stRL T (keyOf K) b n) (R256 T.g))
def hK (K : List Int) : List (Option Ob) := [some (.cells (.ints .u8 K) 5)]
def oMR : List (Option Bool) := nn 4 ++ ([some true, none, none, none, some true, none, none, none, some true, none, none, none, some true, none, none, none, some true, none, none, none, some true, none, none, none, some true, none, none, none, some true, none, none, none, some true, none, none, none, some true, none, none, none, some true, none, none, none, some true, none, none, none, some true, none, none, none, some true, none, none, none, some true, none, none, none, some true] ++ (nn 7 ++ ([some true, some true] ++ (nn 4 ++ ([some true, some true] ++ (nn 4 ++ ([some true, some true] ++ (nn 4 ++ ([some true, some true] ++ (nn 58 ++ ([some true, some true] ++ (nn 4 ++ ([some true, some true] ++ (nn 4 ++ ([some true, some true] ++ (nn 4 ++ ([some true, some true] ++ (nn 58 ++ ([some true, some true] ++ (nn 4 ++ ([some true, some true] ++ (nn 4 ++ ([some true, some true] ++ (nn 4 ++ ([some true, some true] ++ (nn 58 ++ ([some true, some true] ++ (nn 4 ++ ([some true, some true] ++ (nn 4 ++ ([some true, some true] ++ (nn 4 ++ ([some true, some true] ++ (nn 58 ++ ([some true, some true] ++ (nn 4 ++ ([some true, some true] ++ (nn 4 ++ ([some true, some true] ++ (nn 4 ++ ([some true, some true] ++ (nn 58 ++ ([some true, some true] ++ (nn 4 ++ ([some true, some true] ++ (nn 4 ++ ([some true, some true] ++ (nn 4 ++ ([some true, some true] ++ (nn 58 ++ ([some true, some true] ++ (nn 4 ++ ([some true, some true] ++ (nn 4 ++ ([some true, some true] ++ (nn 4 ++ ([some true, some true] ++ (nn 58 ++ ([some true, some true] ++ (nn 4 ++ ([some true, some true] ++ (nn 4 ++ ([some true, some true] ++ (nn 4 ++ ([some true, some true] ++ (nn 58 ++ ([some true, some true] ++ (nn 4 ++ ([some true, some true] ++ (nn 4 ++ ([some true, some true] ++ (nn 4 ++ ([some true, some true] ++ (nn 58 ++ ([some true, some true] ++ (nn 4 ++ ([some true, some true] ++ (nn 4 ++ ([some true, some true] ++ (nn 4 ++ ([some true, some true])))))))))))))))))))))))))))))))))))))))))))))))))))))))))))))))))))))))))))))))))
theorem xorI64 {x y : Nat} (hx : x < 65536) (hy : y < 65536) : xorI .i64 (x : Int) (y : Int) = ((x ^^^ y : Nat) : Int) := by
 have hz : x ^^^ y < 2 ^ 16 := Nat.xor_lt_two_pow (n := 16) hx hy
 unfold xorI
 have e : ∀ z : Nat, z < 65536 -> (BitVec.ofInt IntKind.i64.bits (z : Int)).toNat = z := fun z hz => by
  rw [BitVec.toNat_ofInt]
  show ((z : Int) % ((2 ^ 64 : Nat) : Int)).toNat = z
  omega
 rw [BitVec.toNat_xor, e x hx, e y hy, IntKind.wrap_i64]
 omega
theorem beq1 (z : Nat) : ((z : Int) == 1) = Nat.beq z 1 := by
 cases h : Nat.beq z 1 with
 | true =>
  have : z = 1 := Nat.eq_of_beq_eq_true h
  subst this; rfl
 | false =>
  have h1 : z ≠ 1 := Nat.ne_of_beq_eq_false h
  have h2 : ¬ ((z : Int) = 1) := by omega
  simpa using h2
def m1N (a b : Nat) : Nat -> Nat
 | 0 => 0
 | i + 1 => bif Nat.beq (b / 2 ^ i % 2) 1 then Nat.xor (m1N a b i) (a * 2 ^ i) else m1N a b i
def m2N (n : Nat) : Nat -> Nat
 | 0 => n
 | c + 1 => bif Nat.beq (m2N n c / 2 ^ (14 - c) % 2) 1 then Nat.xor (m2N n c) (283 * 2 ^ (14 - c - 8)) else m2N n c
theorem sft_eq : ∀ i : Fin 16, sft (i.val : Int) = i.val := by decide +kernel
theorem bit1_eq {b : Nat} (hb : b < 256) {i : Nat} (hi : i < 8) : bit1 (b : Int) i = Nat.beq (b / 2 ^ i % 2) 1 := by
 unfold bit1
 rw [sft_eq ⟨i, by omega⟩]
 have e : IntKind.i64.wrap (b : Int) = (b : Int) := by rw [IntKind.wrap_i64]; omega
 rw [e]
 have e2 : ((b : Int).fdiv (2 ^ i)).tmod 2 = ((b / 2 ^ i % 2 : Nat) : Int) := by
  rw [Int.fdiv_eq_ediv_of_nonneg _ (by exact Int.pow_nonneg (by decide))]
  have : (b : Int) / 2 ^ i = ((b / 2 ^ i : Nat) : Int) := by
   rw [Int.natCast_ediv]; simp
  rw [this]
  generalize b / 2 ^ i = z
  rw [Int.tmod_eq_emod_of_nonneg (by omega)]; omega
 rw [e2]; exact beq1 _
theorem bit2_eq {n : Nat} {j : Nat} (hj : j < 16) : bit2 (n : Int) j = Nat.beq (n / 2 ^ j % 2) 1 := by
 unfold bit2
 rw [sft_eq ⟨j, by omega⟩]
 have e2 : ((n : Int).fdiv (2 ^ j)).tmod 2 = ((n / 2 ^ j % 2 : Nat) : Int) := by
  rw [Int.fdiv_eq_ediv_of_nonneg _ (by exact Int.pow_nonneg (by decide))]
  have : (n : Int) / 2 ^ j = ((n / 2 ^ j : Nat) : Int) := by
   rw [Int.natCast_ediv]; simp
  rw [this]
  generalize n / 2 ^ j = z
  rw [Int.tmod_eq_emod_of_nonneg (by omega)]; omega
 rw [e2]; exact beq1 _
theorem pow_le {a i : Nat} (ha : a < 256) (hi : i < 8) : a * 2 ^ i < 65536 := by
 have : 2 ^ i <= 2 ^ 7 := Nat.pow_le_pow_right (by decide) (by omega)
 calc a * 2 ^ i <= 255 * 2 ^ 7 := Nat.mul_le_mul (by omega) this
  _ < 65536 := by decide
theorem m1_eq {a b : Nat} (ha : a < 256) (hb : b < 256) : ∀ i, i <= 8 -> m1 (a : Int) (b : Int) i = (m1N a b i : Nat) /\ m1N a b i < 65536
 | 0, _ => ⟨rfl, by show (0 : Nat) < 65536; decide⟩
 | i + 1, h => by
  obtain ⟨h1, h2⟩ := m1_eq ha hb i (by omega)
  unfold m1 m1N
  rw [bit1_eq hb (show i < 8 by omega)]
  cases Nat.beq (b / 2 ^ i % 2) 1 with
  | false => exact ⟨h1, h2⟩
  | true =>
   have hp := pow_le ha (show i < 8 by omega)
   refine ⟨?_, Nat.xor_lt_two_pow (n := 16) h2 hp⟩
   show add1 (a : Int) (m1 (a : Int) (b : Int) i) i = ((Nat.xor (m1N a b i) (a * 2 ^ i) : Nat) : Int)
   unfold add1
   rw [sft_eq ⟨i, by omega⟩, h1]
   have e : IntKind.i64.wrap (IntKind.i64.wrap (a : Int) * 2 ^ i) = ((a * 2 ^ i : Nat) : Int) := by
    have e1 : IntKind.i64.wrap (a : Int) = (a : Int) := by rw [IntKind.wrap_i64]; omega
    have e2 : (a : Int) * 2 ^ i = ((a * 2 ^ i : Nat) : Int) := by rw [Int.natCast_mul]; simp
    show IntKind.i64.wrap (IntKind.i64.wrap (a : Int) * 2 ^ i) = _
    rw [e1, e2, IntKind.wrap_i64]; omega
   show xorI .i64 _ (IntKind.i64.wrap (IntKind.i64.wrap (a : Int) * 2 ^ i)) = _
   rw [e, xorI64 h2 hp]; rfl
theorem red_pow : ∀ c : Fin 7, IntKind.i64.wrap (283 * 2 ^ sft (IntKind.i64.wrap (((14 - c.val : Nat) : Int) - 8))) = ((283 * 2 ^ (14 - c.val - 8) : Nat) : Int) := by decide +kernel
theorem red_lt : ∀ c : Fin 7, 283 * 2 ^ (14 - c.val - 8) < 65536 := by decide
theorem m2_eq {n : Nat} (hn : n < 65536) : ∀ c, c <= 7 -> m2 (n : Int) c = (m2N n c : Nat) /\ m2N n c < 65536
 | 0, _ => ⟨rfl, hn⟩
 | c + 1, h => by
  obtain ⟨h1, h2⟩ := m2_eq hn c (by omega)
  unfold m2 m2N
  rw [h1, bit2_eq (show 14 - c < 16 by omega)]
  cases Nat.beq (m2N n c / 2 ^ (14 - c) % 2) 1 with
  | false => exact ⟨rfl, h2⟩
  | true =>
   have hp := red_lt ⟨c, by omega⟩
   refine ⟨?_, Nat.xor_lt_two_pow (n := 16) h2 hp⟩
   show red2 ((m2N n c : Nat) : Int) (14 - c) = ((Nat.xor (m2N n c) (283 * 2 ^ (14 - c - 8)) : Nat) : Int)
   unfold red2
   rw [red_pow ⟨c, by omega⟩, xorI64 h2 hp]; rfl
def mulN (a b : Nat) : Nat := m2N (m1N a b 8) 7 % 256
theorem mul_eq {a b : Nat} (ha : a < 256) (hb : b < 256) : mulR (a : Int) (b : Int) = (mulN a b : Nat) := by
 obtain ⟨h1, h2⟩ := m1_eq ha hb 8 (by omega)
 obtain ⟨h3, h4⟩ := m2_eq h2 7 (by omega)
 unfold mulR
 rw [h1, h3, IntKind.wrap_u8]; unfold mulN; omega
def fiN (b : Nat) : Nat -> Nat -> Nat
 | 0, _ => 0
 | n + 1, i => bif Nat.beq (mulN b i) 1 then i else fiN b n (i + 1)
theorem fi_eq {b : Nat} (hb : b < 256) : ∀ n i, i + n <= 256 -> (match fi (b : Int) n i with
  | some i => IntKind.u8.wrap i
  | none => 0) = ((fiN b n i : Nat) : Int)
 | 0, i, _ => rfl
 | n + 1, i, h => by
  unfold fi fiN
  have hh : hit (b : Int) (i : Int) = Nat.beq (mulN b i) 1 := by
   unfold hit
   have : IntKind.u8.wrap (i : Int) = (i : Int) := by rw [IntKind.wrap_u8]; omega
   rw [this, mul_eq hb (by omega)]; exact beq1 _
  rw [hh]
  cases Nat.beq (mulN b i) 1 with
  | false => exact fi_eq hb n (i + 1) (by omega)
  | true =>
   show IntKind.u8.wrap (i : Int) = (i : Int)
   rw [IntKind.wrap_u8]; omega
theorem inv_eq {b : Nat} (hb : b < 256) : invR (b : Int) = ((fiN b 256 0 : Nat) : Int) := fi_eq hb 256 0 (by omega)
theorem bx0 : (List.range 64).all (fun j => boxf ((fiN (0 + j) 256 0 : Nat) : Int) == BOX.getD (0 + j) 0) = true := by decide +kernel
theorem bx1 : (List.range 64).all (fun j => boxf ((fiN (64 + j) 256 0 : Nat) : Int) == BOX.getD (64 + j) 0) = true := by decide +kernel
theorem bx2 : (List.range 64).all (fun j => boxf ((fiN (128 + j) 256 0 : Nat) : Int) == BOX.getD (128 + j) 0) = true := by decide +kernel
theorem bx3 : (List.range 64).all (fun j => boxf ((fiN (192 + j) 256 0 : Nat) : Int) == BOX.getD (192 + j) 0) = true := by decide +kernel
end
end ae
end Go.Proofs.Ytkcngffpnnlmeaa
