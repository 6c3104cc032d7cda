/- Read off the code by the clean reading. -/
import Derived.Test.YthpoeegoankpoaaGreatClnQd
import Derived.Test.YthpoeegoankpoaaGreatClnQc
import Derived.Test.YthpoeegoankpoaaGreatRows
import Derived.WalkKit
import Derived.ProofKit
import Derived.Below
import Derived.IntWalk
set_option linter.unusedVariables false
set_option linter.unusedSimpArgs false
set_option linter.deprecated false
set_option maxRecDepth 100000
namespace Go.Proofs.YthpoeegoankpoaaGreat
open Go.ChangeShapes Go.WideShapes Go.ChangeAt Go.RowKit Go.Cln
namespace ob
set_option linter.unusedVariables false
theorem pg : PG Tryz.prog := PG.of (by decide +kernel)
theorem worksRuns : ((mk Tryz.prog Given.nothing 300).call 6 [] (St.start 0 .leaf [])).map (fun r => (r.1, r.2.obl)) = some (.bool true, True) := by kernel_rfl
theorem works (W : World) : Calls Tryz.prog 6 #[] W fun e w' => e = .returned (.bool true) ∧ Below W.heap.size W w' := ran pg (GivenOk.nothing _) worksRuns trivial rfl rfl W
noncomputable section
def vs (v : Nat → Value) (b : Nat) : Nat → List Value → List Value
  | 0, l => l
  | k + 1, l => vs v b k (v (b + k) :: l)
theorem deadT_vs {B : Nat → Bool} {v : Nat → Value} (h : ∀ i, DeadV (v i)) : ∀ (n : Nat) {a b : Nat} {l : List Value}, deadT B (a + n) l → deadT B a (vs v b n l)
  | 0, _, _, _, g => g
  | n + 1, a, b, l, g => deadT_vs h n (a := a) (b := b) (l := v (b + n) :: l) ⟨fun _ => h _, g⟩
abbrev VF := Nat → Value
def vU : VF := fun _ => undef
theorem vU_dead (i : Nat) : DeadV (vU i) := DeadV.undef
def dropC : Nat → Code → Code
  | 0, c => c
  | k + 1, .seq x y => dropC k y
  | _ + 1, c => c
structure MX where
  RN : Nat → Nat
  A : Nat → Nat → Int
  B : Nat → Nat → Int
  C : Nat → Nat → Int
  D : Nat → Nat → Int
  E : Nat → Nat → Bool
  G : Nat → Nat → Int
  H : Nat → Nat → Int
  I : Nat → Nat → Bool
  J : Nat → Nat → Bool
  K : Nat → Nat → Bool
  L : Nat → Nat → Bool
  M : Nat → Nat → Int
  O : Nat → Nat → Int
  Q : Nat → Nat → Int
  T : Nat → Nat → Int
  U : Nat → List Int
  LN : Nat → Nat
  LS : Nat → Nat → Bool
  LQ : Nat → Nat → Nat
  LM : Nat → Nat → Nat
  LC : Nat → Nat → Nat
abbrev PR (P n c : Nat) : Value := .slice (some ⟨P, 0, some 1000⟩) n c
abbrev PU (P n c : Nat) : Value := .slice (some ⟨P, 0, some 1001⟩) n c
abbrev PLg (P n c : Nat) : Value := .slice (some ⟨P, 0, some 1002⟩) n c
def MX.row (x : MX) (P i : Nat) : List Value := [.int .u32 (x.A P i), .int .u8 (x.B P i), .int .u8 (x.C P i), .int .u8 (x.D P i), .bool (x.E P i), .int .u32 (x.G P i), .int .u32 (x.H P i), .bool (x.I P i), .bool (x.J P i), .bool (x.K P i), .bool (x.L P i), .int .u32 (x.M P i), .int .u32 (x.O P i), .int .u32 (x.Q P i), .int .u8 (x.T P i)]
def MX.leg (x : MX) (P i : Nat) : List Value := [.bool (x.LS P i), PU (x.LQ P i) (x.LM P i) (x.LC P i)]
def MX.F (x : MX) (g P : Nat) : Cells := match Nat.beq g 1001 with
  | true => .ints .u32 (x.U P)
  | false => match Nat.beq g 1002 with
  | true => .rows (x.LN P) 2 (x.leg P)
  | false => .rows (x.RN P) 15 (x.row P)
def ixR (i : Nat) : Nat := (0 + i * 15) / 15
theorem ixR_eq (i : Nat) : ixR i = i := by unfold ixR; omega
def ix2 (i : Nat) : Nat := (0 + i * 2) / 2
theorem ix2_eq (i : Nat) : ix2 i = i := by unfold ix2; omega
structure RV where
  A : Int
  B : Int
  C : Int
  D : Int
  E : Bool
  G : Int
  H : Int
  I : Bool
  J : Bool
  K : Bool
  L : Bool
  M : Int
  O : Int
  Q : Int
  T : Int
def RV.l (r : RV) : List Value := [.int .u32 r.A, .int .u8 r.B, .int .u8 r.C, .int .u8 r.D, .bool r.E, .int .u32 r.G, .int .u32 r.H, .bool r.I, .bool r.J, .bool r.K, .bool r.L, .int .u32 r.M, .int .u32 r.O, .int .u32 r.Q, .int .u8 r.T]
def RV.v (r : RV) : Value := .agg r.l.toArray
def MX.rv (x : MX) (P i : Nat) : RV := ⟨x.A P i, x.B P i, x.C P i, x.D P i, x.E P i, x.G P i, x.H P i, x.I P i, x.J P i, x.K P i, x.L P i, x.M P i, x.O P i, x.Q P i, x.T P i⟩
def pv (a l : Int) : Value := .agg #[.int .u32 a, .int .u8 l]
structure AV where
  o : Int
  P : Nat
  n : Nat
  c : Nat
  nx : Int
  hm : Bool
  m : Int
  hp : Bool
  p : Int
  Q : Nat
  k : Nat
  d : Nat
def AV.l (a : AV) : List Value := [.int .u8 a.o, PLg a.P a.n a.c, .int .u32 a.nx, .bool a.hm, .int .u32 a.m, .bool a.hp, .int .u32 a.p, PU a.Q a.k a.d]
def AV.v (a : AV) : Value := .agg a.l.toArray
def numOk (x : MX) (P n : Nat) : Prop := n ≤ (x.U P).length ∧ n ≤ 1000
def legOk (x : MX) (P n : Nat) : Prop := n ≤ x.LN P ∧ n ≤ 1000 ∧ ∀ i, i < n → numOk x (x.LQ P i) (x.LM P i)
def KN : Given := { Given.nothing with fits := true }
theorem KN_ok : GivenOk Tryz.prog KN := frames_fits (GivenOk.nothing _) true
def maskI (l : Int) : Int := 2 ^ 32 - 2 ^ (32 - l.toNat)
theorem k49_0 (x : MX) : ((mk Tryz.prog KN 200).call 49 [.int .u8 0] (smSt 1 [some (.fam x.F)] [])).map (fun r => (r.1, r.2.obl)) = some (.int .u32 0, True) := by kernel_rfl
theorem k49_1 (x : MX) : ((mk Tryz.prog KN 200).call 49 [.int .u8 1] (smSt 1 [some (.fam x.F)] [])).map (fun r => (r.1, r.2.obl)) = some (.int .u32 2147483648, True) := by kernel_rfl
theorem k49_2 (x : MX) : ((mk Tryz.prog KN 200).call 49 [.int .u8 2] (smSt 1 [some (.fam x.F)] [])).map (fun r => (r.1, r.2.obl)) = some (.int .u32 3221225472, True) := by kernel_rfl
theorem k49_3 (x : MX) : ((mk Tryz.prog KN 200).call 49 [.int .u8 3] (smSt 1 [some (.fam x.F)] [])).map (fun r => (r.1, r.2.obl)) = some (.int .u32 3758096384, True) := by kernel_rfl
theorem k49_4 (x : MX) : ((mk Tryz.prog KN 200).call 49 [.int .u8 4] (smSt 1 [some (.fam x.F)] [])).map (fun r => (r.1, r.2.obl)) = some (.int .u32 4026531840, True) := by kernel_rfl
theorem k49_5 (x : MX) : ((mk Tryz.prog KN 200).call 49 [.int .u8 5] (smSt 1 [some (.fam x.F)] [])).map (fun r => (r.1, r.2.obl)) = some (.int .u32 4160749568, True) := by kernel_rfl
theorem k49_6 (x : MX) : ((mk Tryz.prog KN 200).call 49 [.int .u8 6] (smSt 1 [some (.fam x.F)] [])).map (fun r => (r.1, r.2.obl)) = some (.int .u32 4227858432, True) := by kernel_rfl
theorem k49_7 (x : MX) : ((mk Tryz.prog KN 200).call 49 [.int .u8 7] (smSt 1 [some (.fam x.F)] [])).map (fun r => (r.1, r.2.obl)) = some (.int .u32 4261412864, True) := by kernel_rfl
theorem k49_8 (x : MX) : ((mk Tryz.prog KN 200).call 49 [.int .u8 8] (smSt 1 [some (.fam x.F)] [])).map (fun r => (r.1, r.2.obl)) = some (.int .u32 4278190080, True) := by kernel_rfl
theorem k49_9 (x : MX) : ((mk Tryz.prog KN 200).call 49 [.int .u8 9] (smSt 1 [some (.fam x.F)] [])).map (fun r => (r.1, r.2.obl)) = some (.int .u32 4286578688, True) := by kernel_rfl
theorem k49_10 (x : MX) : ((mk Tryz.prog KN 200).call 49 [.int .u8 10] (smSt 1 [some (.fam x.F)] [])).map (fun r => (r.1, r.2.obl)) = some (.int .u32 4290772992, True) := by kernel_rfl
theorem k49_11 (x : MX) : ((mk Tryz.prog KN 200).call 49 [.int .u8 11] (smSt 1 [some (.fam x.F)] [])).map (fun r => (r.1, r.2.obl)) = some (.int .u32 4292870144, True) := by kernel_rfl
theorem k49_12 (x : MX) : ((mk Tryz.prog KN 200).call 49 [.int .u8 12] (smSt 1 [some (.fam x.F)] [])).map (fun r => (r.1, r.2.obl)) = some (.int .u32 4293918720, True) := by kernel_rfl
theorem k49_13 (x : MX) : ((mk Tryz.prog KN 200).call 49 [.int .u8 13] (smSt 1 [some (.fam x.F)] [])).map (fun r => (r.1, r.2.obl)) = some (.int .u32 4294443008, True) := by kernel_rfl
theorem k49_14 (x : MX) : ((mk Tryz.prog KN 200).call 49 [.int .u8 14] (smSt 1 [some (.fam x.F)] [])).map (fun r => (r.1, r.2.obl)) = some (.int .u32 4294705152, True) := by kernel_rfl
theorem k49_15 (x : MX) : ((mk Tryz.prog KN 200).call 49 [.int .u8 15] (smSt 1 [some (.fam x.F)] [])).map (fun r => (r.1, r.2.obl)) = some (.int .u32 4294836224, True) := by kernel_rfl
theorem k49_16 (x : MX) : ((mk Tryz.prog KN 200).call 49 [.int .u8 16] (smSt 1 [some (.fam x.F)] [])).map (fun r => (r.1, r.2.obl)) = some (.int .u32 4294901760, True) := by kernel_rfl
theorem k49_17 (x : MX) : ((mk Tryz.prog KN 200).call 49 [.int .u8 17] (smSt 1 [some (.fam x.F)] [])).map (fun r => (r.1, r.2.obl)) = some (.int .u32 4294934528, True) := by kernel_rfl
theorem k49_18 (x : MX) : ((mk Tryz.prog KN 200).call 49 [.int .u8 18] (smSt 1 [some (.fam x.F)] [])).map (fun r => (r.1, r.2.obl)) = some (.int .u32 4294950912, True) := by kernel_rfl
theorem k49_19 (x : MX) : ((mk Tryz.prog KN 200).call 49 [.int .u8 19] (smSt 1 [some (.fam x.F)] [])).map (fun r => (r.1, r.2.obl)) = some (.int .u32 4294959104, True) := by kernel_rfl
theorem k49_20 (x : MX) : ((mk Tryz.prog KN 200).call 49 [.int .u8 20] (smSt 1 [some (.fam x.F)] [])).map (fun r => (r.1, r.2.obl)) = some (.int .u32 4294963200, True) := by kernel_rfl
theorem k49_21 (x : MX) : ((mk Tryz.prog KN 200).call 49 [.int .u8 21] (smSt 1 [some (.fam x.F)] [])).map (fun r => (r.1, r.2.obl)) = some (.int .u32 4294965248, True) := by kernel_rfl
theorem k49_22 (x : MX) : ((mk Tryz.prog KN 200).call 49 [.int .u8 22] (smSt 1 [some (.fam x.F)] [])).map (fun r => (r.1, r.2.obl)) = some (.int .u32 4294966272, True) := by kernel_rfl
theorem k49_23 (x : MX) : ((mk Tryz.prog KN 200).call 49 [.int .u8 23] (smSt 1 [some (.fam x.F)] [])).map (fun r => (r.1, r.2.obl)) = some (.int .u32 4294966784, True) := by kernel_rfl
theorem k49_24 (x : MX) : ((mk Tryz.prog KN 200).call 49 [.int .u8 24] (smSt 1 [some (.fam x.F)] [])).map (fun r => (r.1, r.2.obl)) = some (.int .u32 4294967040, True) := by kernel_rfl
theorem k49_25 (x : MX) : ((mk Tryz.prog KN 200).call 49 [.int .u8 25] (smSt 1 [some (.fam x.F)] [])).map (fun r => (r.1, r.2.obl)) = some (.int .u32 4294967168, True) := by kernel_rfl
theorem k49_26 (x : MX) : ((mk Tryz.prog KN 200).call 49 [.int .u8 26] (smSt 1 [some (.fam x.F)] [])).map (fun r => (r.1, r.2.obl)) = some (.int .u32 4294967232, True) := by kernel_rfl
theorem k49_27 (x : MX) : ((mk Tryz.prog KN 200).call 49 [.int .u8 27] (smSt 1 [some (.fam x.F)] [])).map (fun r => (r.1, r.2.obl)) = some (.int .u32 4294967264, True) := by kernel_rfl
theorem k49_28 (x : MX) : ((mk Tryz.prog KN 200).call 49 [.int .u8 28] (smSt 1 [some (.fam x.F)] [])).map (fun r => (r.1, r.2.obl)) = some (.int .u32 4294967280, True) := by kernel_rfl
theorem k49_29 (x : MX) : ((mk Tryz.prog KN 200).call 49 [.int .u8 29] (smSt 1 [some (.fam x.F)] [])).map (fun r => (r.1, r.2.obl)) = some (.int .u32 4294967288, True) := by kernel_rfl
theorem k49_30 (x : MX) : ((mk Tryz.prog KN 200).call 49 [.int .u8 30] (smSt 1 [some (.fam x.F)] [])).map (fun r => (r.1, r.2.obl)) = some (.int .u32 4294967292, True) := by kernel_rfl
theorem k49_31 (x : MX) : ((mk Tryz.prog KN 200).call 49 [.int .u8 31] (smSt 1 [some (.fam x.F)] [])).map (fun r => (r.1, r.2.obl)) = some (.int .u32 4294967294, True) := by kernel_rfl
theorem k49_32 (x : MX) : ((mk Tryz.prog KN 200).call 49 [.int .u8 32] (smSt 1 [some (.fam x.F)] [])).map (fun r => (r.1, r.2.obl)) = some (.int .u32 4294967295, True) := by kernel_rfl
theorem rd49 (x : MX) {l : Int} (h : 0 ≤ l ∧ l ≤ 32) : Rd Tryz.prog x.F 49 [.int .u8 l] (.int .u32 (maskI l)) := by
  obtain ⟨k, rfl⟩ := Int.eq_ofNat_of_zero_le h.1
  have hk : k < 33 := by omega
  have : k = 0 ∨ k = 1 ∨ k = 2 ∨ k = 3 ∨ k = 4 ∨ k = 5 ∨ k = 6 ∨ k = 7 ∨ k = 8 ∨ k = 9 ∨ k = 10 ∨ k = 11 ∨ k = 12 ∨ k = 13 ∨ k = 14 ∨ k = 15 ∨ k = 16 ∨ k = 17 ∨ k = 18 ∨ k = 19 ∨ k = 20 ∨ k = 21 ∨ k = 22 ∨ k = 23 ∨ k = 24 ∨ k = 25 ∨ k = 26 ∨ k = 27 ∨ k = 28 ∨ k = 29 ∨ k = 30 ∨ k = 31 ∨ k = 32 := by omega
  rcases this with rfl | rfl | rfl | rfl | rfl | rfl | rfl | rfl | rfl | rfl | rfl | rfl | rfl | rfl | rfl | rfl | rfl | rfl | rfl | rfl | rfl | rfl | rfl | rfl | rfl | rfl | rfl | rfl | rfl | rfl | rfl | rfl | rfl
  · exact Rd.run pg KN_ok (k49_0 x) trivial rfl
  · exact Rd.run pg KN_ok (k49_1 x) trivial rfl
  · exact Rd.run pg KN_ok (k49_2 x) trivial rfl
  · exact Rd.run pg KN_ok (k49_3 x) trivial rfl
  · exact Rd.run pg KN_ok (k49_4 x) trivial rfl
  · exact Rd.run pg KN_ok (k49_5 x) trivial rfl
  · exact Rd.run pg KN_ok (k49_6 x) trivial rfl
  · exact Rd.run pg KN_ok (k49_7 x) trivial rfl
  · exact Rd.run pg KN_ok (k49_8 x) trivial rfl
  · exact Rd.run pg KN_ok (k49_9 x) trivial rfl
  · exact Rd.run pg KN_ok (k49_10 x) trivial rfl
  · exact Rd.run pg KN_ok (k49_11 x) trivial rfl
  · exact Rd.run pg KN_ok (k49_12 x) trivial rfl
  · exact Rd.run pg KN_ok (k49_13 x) trivial rfl
  · exact Rd.run pg KN_ok (k49_14 x) trivial rfl
  · exact Rd.run pg KN_ok (k49_15 x) trivial rfl
  · exact Rd.run pg KN_ok (k49_16 x) trivial rfl
  · exact Rd.run pg KN_ok (k49_17 x) trivial rfl
  · exact Rd.run pg KN_ok (k49_18 x) trivial rfl
  · exact Rd.run pg KN_ok (k49_19 x) trivial rfl
  · exact Rd.run pg KN_ok (k49_20 x) trivial rfl
  · exact Rd.run pg KN_ok (k49_21 x) trivial rfl
  · exact Rd.run pg KN_ok (k49_22 x) trivial rfl
  · exact Rd.run pg KN_ok (k49_23 x) trivial rfl
  · exact Rd.run pg KN_ok (k49_24 x) trivial rfl
  · exact Rd.run pg KN_ok (k49_25 x) trivial rfl
  · exact Rd.run pg KN_ok (k49_26 x) trivial rfl
  · exact Rd.run pg KN_ok (k49_27 x) trivial rfl
  · exact Rd.run pg KN_ok (k49_28 x) trivial rfl
  · exact Rd.run pg KN_ok (k49_29 x) trivial rfl
  · exact Rd.run pg KN_ok (k49_30 x) trivial rfl
  · exact Rd.run pg KN_ok (k49_31 x) trivial rfl
  · exact Rd.run pg KN_ok (k49_32 x) trivial rfl
def TM (f : FuncId) (args : List Value) : Option (Value × Prop) :=
  if f == 49 then (match args with
    | [.int .u8 l] => some (.int .u32 (maskI l), 0 ≤ l ∧ l ≤ 32)
    | _ => none)
  else none
theorem TM_ok (x : MX) (f : FuncId) (args : List Value) (r : Value × Prop) (h : TM f args = some r) : flat r.1 = true ∧ args.all farV = true ∧ (r.2 → Rd Tryz.prog x.F f args r.1) := by
  unfold TM at h
  split at h
  · rename_i hf
    have hf : f = 49 := by simpa using hf
    subst hf
    split at h
    · cases h
      exact ⟨rfl, rfl, fun hp => rd49 x hp⟩
    · cases h
  · cases h
def KM (x : MX) : Given := { Given.rds Given.nothing x.F TM with fits := true }
theorem KM_ok (x : MX) : GivenOk Tryz.prog (KM x) := frames_fits ((GivenOk.nothing _).rds (TM_ok x)) true
end
end ob
end Go.Proofs.YthpoeegoankpoaaGreat
namespace Go.Proofs.YthpoeegoankpoaaGreat
open Go.ChangeShapes Go.WideShapes Go.ChangeAt Go.RowKit Go.Cln
namespace ob
set_option linter.unusedVariables false
def bitI (a i : Int) : Int := a / 2 ^ (31 - i.toNat) % 2
def rightE (a l : Int) : Bool := decide (l ≤ 32) && decide (a % 2 ^ (32 - l.toNat) = 0)
def coversE (pa pl qa ql : Int) : Bool := rightE pa pl && rightE qa ql && decide (pl ≤ ql) && decide (qa / 2 ^ (32 - pl.toNat) = pa / 2 ^ (32 - pl.toNat))
def bitsOff (a l : Int) : Int := IntKind.u32.wrap ↑(BitVec.ofInt IntKind.u32.bits a &&& ~~~BitVec.ofInt IntKind.u32.bits (maskI l)).toNat
def bitsOn (a l : Int) : Int := IntKind.u32.wrap ↑(BitVec.ofInt IntKind.u32.bits a &&& BitVec.ofInt IntKind.u32.bits (maskI l)).toNat
theorem mask_bit {k : Nat} (hk : k ≤ 32) (j : Nat) : (2 ^ 32 - 2 ^ k : Nat).testBit j = (decide (j < 32) && !decide (j < k)) := by
  have h1 : (2 ^ k - 1 : Nat) < 2 ^ 32 := by
    have := Nat.pow_le_pow_right (show 0 < 2 by decide) hk
    have h2 : 0 < 2 ^ k := Nat.pow_pos (by decide)
    omega
  have h2 : 0 < 2 ^ k := Nat.pow_pos (by decide)
  rw [show (2 ^ 32 - 2 ^ k : Nat) = 2 ^ 32 - (2 ^ k - 1 + 1) by omega, Nat.testBit_two_pow_sub_succ h1, Nat.testBit_two_pow_sub_one]
theorem maskI_nat {l : Int} (h : 0 ≤ l ∧ l ≤ 32) : maskI l = ((2 ^ 32 - 2 ^ (32 - l.toNat) : Nat) : Int) := by
  unfold maskI
  have : 2 ^ (32 - l.toNat) ≤ 2 ^ 32 := Nat.pow_le_pow_right (by decide) (by omega)
  rw [Int.ofNat_sub this]
  simp
theorem bitsOff_eq {a : Nat} {l : Int} (ha : a < 2 ^ 32) (h : 0 ≤ l ∧ l ≤ 32) : bitsOff a l = ((a % 2 ^ (32 - l.toNat) : Nat) : Int) := by
  have hle : a % 2 ^ (32 - l.toNat) ≤ a := Nat.mod_le _ _
  have key : (BitVec.ofInt IntKind.u32.bits (a : Int) &&& ~~~BitVec.ofInt IntKind.u32.bits (maskI l)).toNat = a % 2 ^ (32 - l.toNat) := by
    rw [maskI_nat h]
    simp only [show IntKind.u32.bits = 32 from rfl, BitVec.ofInt_natCast]
    have e : (BitVec.ofNat 32 a &&& ~~~BitVec.ofNat 32 (2 ^ 32 - 2 ^ (32 - l.toNat))) = BitVec.ofNat 32 (a % 2 ^ (32 - l.toNat)) := by
      apply BitVec.eq_of_getLsbD_eq
      intro j hj
      simp only [BitVec.getLsbD_and, BitVec.getLsbD_not, BitVec.getLsbD_ofNat, hj, decide_true, Bool.true_and, mask_bit (show 32 - l.toNat ≤ 32 by omega), Nat.testBit_mod_two_pow, Bool.not_not]
      exact Bool.and_comm _ _
    have e2 := congrArg BitVec.toNat e
    rw [BitVec.toNat_ofNat, Nat.mod_eq_of_lt (by omega)] at e2
    exact e2
  unfold bitsOff
  rw [key, IntKind.wrap_u32]
  omega
theorem bitsOn_eq {a : Nat} {l : Int} (ha : a < 2 ^ 32) (h : 0 ≤ l ∧ l ≤ 32) : bitsOn a l = ((a / 2 ^ (32 - l.toNat) * 2 ^ (32 - l.toNat) : Nat) : Int) := by
  have hle : a / 2 ^ (32 - l.toNat) * 2 ^ (32 - l.toNat) ≤ a := Nat.div_mul_le_self _ _
  have key : (BitVec.ofInt IntKind.u32.bits (a : Int) &&& BitVec.ofInt IntKind.u32.bits (maskI l)).toNat = a / 2 ^ (32 - l.toNat) * 2 ^ (32 - l.toNat) := by
    rw [maskI_nat h]
    simp only [show IntKind.u32.bits = 32 from rfl, BitVec.ofInt_natCast]
    have e : (BitVec.ofNat 32 a &&& BitVec.ofNat 32 (2 ^ 32 - 2 ^ (32 - l.toNat))) = BitVec.ofNat 32 (a / 2 ^ (32 - l.toNat) * 2 ^ (32 - l.toNat)) := by
      apply BitVec.eq_of_getLsbD_eq
      intro j hj
      rw [Nat.mul_comm (a / _)]
      simp only [BitVec.getLsbD_and, BitVec.getLsbD_ofNat, hj, decide_true, Bool.true_and, mask_bit (show 32 - l.toNat ≤ 32 by omega), Nat.testBit_two_pow_mul, Nat.testBit_div_two_pow]
      by_cases h1 : j < 32 - l.toNat
      · simp [h1]; omega
      · rw [show j - (32 - l.toNat) + (32 - l.toNat) = j by omega, decide_eq_false h1, decide_eq_true (show j ≥ 32 - l.toNat by omega)]
        simp
    have e2 := congrArg BitVec.toNat e
    rw [BitVec.toNat_ofNat, Nat.mod_eq_of_lt (by omega)] at e2
    exact e2
  unfold bitsOn
  rw [key, IntKind.wrap_u32]
  omega
theorem bitI_nat (a i : Nat) : bitI a i = if a.testBit (31 - i) then 1 else 0 := by
  unfold bitI
  rw [Int.toNat_natCast, Nat.testBit_eq_decide_div_mod_eq]
  have : ((a : Int) / 2 ^ (31 - i) % 2) = ((a / 2 ^ (31 - i) % 2 : Nat) : Int) := by simp
  rw [this]
  rcases Nat.mod_two_eq_zero_or_one (a / 2 ^ (31 - i)) with h | h <;> rw [h] <;> simp
theorem right_bits {a l : Nat} (ha : a < 2 ^ 32) (hl : l ≤ 32) : (∀ i, i < 32 - l → (bitI a (l + i : Nat) == 1) = false) ↔ a % 2 ^ (32 - l) = 0 := by
  have hb : ∀ i, (bitI (a : Int) ((l + i : Nat) : Int) == 1) = a.testBit (31 - (l + i)) := fun i => by
    rw [bitI_nat]; cases a.testBit (31 - (l + i)) <;> rfl
  constructor
  · intro h
    apply Nat.eq_of_testBit_eq
    intro j
    rw [Nat.testBit_mod_two_pow, Nat.zero_testBit]
    by_cases hj : j < 32 - l
    · have := h (31 - l - j) (by omega)
      rw [hb, show 31 - (l + (31 - l - j)) = j by omega] at this
      simp [this]
    · simp [hj]
  · intro h i hi
    rw [hb]
    have := congrArg (fun x => x.testBit (31 - (l + i))) h
    simp only [Nat.testBit_mod_two_pow, Nat.zero_testBit] at this
    simpa [show 31 - (l + i) < 32 - l by omega] using this
theorem covers_bits {a b l : Nat} (ha : a < 2 ^ 32) (hb : b < 2 ^ 32) (hl : l ≤ 32) : (∀ i, i < l → (bitI a (i : Nat) != bitI b (i : Nat)) = false) ↔ b / 2 ^ (32 - l) = a / 2 ^ (32 - l) := by
  have hq : ∀ i, (bitI (a : Int) ((i : Nat) : Int) != bitI b (i : Nat)) = (a.testBit (31 - i) != b.testBit (31 - i)) := fun i => by
    rw [bitI_nat, bitI_nat]; cases a.testBit (31 - i) <;> cases b.testBit (31 - i) <;> rfl
  constructor
  · intro h
    apply Nat.eq_of_testBit_eq
    intro j
    rw [Nat.testBit_div_two_pow, Nat.testBit_div_two_pow]
    by_cases hj : j + (32 - l) < 32
    · have := h (l - 1 - j) (by omega)
      rw [hq, show 31 - (l - 1 - j) = j + (32 - l) by omega] at this
      cases h1 : a.testBit (j + (32 - l)) <;> cases h2 : b.testBit (j + (32 - l)) <;> simp [h1, h2] at this ⊢
    · rw [Nat.testBit_lt_two_pow (Nat.lt_of_lt_of_le hb (Nat.pow_le_pow_right (by decide) (by omega))), Nat.testBit_lt_two_pow (Nat.lt_of_lt_of_le ha (Nat.pow_le_pow_right (by decide) (by omega)))]
  · intro h i hi
    rw [hq]
    have := congrArg (fun x => x.testBit (l - 1 - i)) h
    simp only [Nat.testBit_div_two_pow] at this
    rw [show l - 1 - i + (32 - l) = 31 - i by omega] at this
    rw [this]; simp
end ob
end Go.Proofs.YthpoeegoankpoaaGreat
namespace Go.Proofs.YthpoeegoankpoaaGreat
open Go.ChangeShapes Go.WideShapes Go.ChangeAt Go.RowKit Go.Cln
namespace ob
set_option linter.unusedVariables false
noncomputable section
theorem rightE_no {a l : Int} (h : decide (l ≤ 32) = false) : rightE a l = false := by unfold rightE; rw [h]; rfl
theorem rightE_off {a l : Int} (ha : 0 ≤ a ∧ a < 4294967296) (hl : 0 ≤ l) (h : decide (l ≤ 32) = true) : rightE a l = (bitsOff a l == 0) := by
  obtain ⟨k, rfl⟩ := Int.eq_ofNat_of_zero_le ha.1
  rw [bitsOff_eq (by omega) ⟨hl, of_decide_eq_true h⟩]
  unfold rightE
  rw [h, Bool.true_and]
  have e : ((k : Int) % 2 ^ (32 - l.toNat)) = ((k % 2 ^ (32 - l.toNat) : Nat) : Int) := by simp
  rw [e]
  rfl
theorem k29_0 (x : MX) (a l : Int) : ((mk Tryz.prog (KM x) 200).call 29 [pv a l] (smSt 1 [some (.fam x.F)] [some true, some true, some true, some true, some true, some true, some true, some true])).map (fun r => (r.1, r.2.obl)) = some (Value.bool (bitsOff a l == 0), (((((((((True ∧ (decide (l ≤ 32)) = true) ∧ (decide (l ≤ 32)) = true) ∧ (decide (l ≤ 32)) = true) ∧ (decide (l ≤ 32)) = true) ∧ (decide (l ≤ 32)) = true) ∧ (x.F = x.F ∧ (Value.int IntKind.u32 (maskI l), 0 ≤ l ∧ l ≤ 32).snd)) ∧ (decide (l ≤ 32)) = true) ∧ (decide (l ≤ 32)) = true) ∧ (decide (l ≤ 32)) = true)) := by kernel_rfl
theorem k29_1 (x : MX) (a l : Int) : ((mk Tryz.prog (KM x) 200).call 29 [pv a l] (smSt 1 [some (.fam x.F)] [some false, some false, some false, some false, some false, some false, some false, some false])).map (fun r => (r.1, r.2.obl)) = some (Value.bool false, ((((((((True ∧ (decide (l ≤ 32)) = false) ∧ (decide (l ≤ 32)) = false) ∧ (decide (l ≤ 32)) = false) ∧ (decide (l ≤ 32)) = false) ∧ (decide (l ≤ 32)) = false) ∧ (decide (l ≤ 32)) = false) ∧ (decide (l ≤ 32)) = false) ∧ (decide (l ≤ 32)) = false)) := by kernel_rfl
theorem rd29 {x : MX} {a l : Int} (ha : 0 ≤ a ∧ a < 4294967296) (hl : 0 ≤ l) : Rd Tryz.prog x.F 29 [pv a l] (.bool (rightE a l)) := by
  rcases Bool.eq_false_or_eq_true (decide (l ≤ 32)) with h0 | h0
  · skip
    rw [show .bool (rightE a l) = Value.bool (bitsOff a l == 0) from by rw [rightE_off ha hl h0]]
    exact Rd.run pg (KM_ok x) (k29_0 x a l) ⟨⟨⟨⟨⟨⟨⟨⟨⟨trivial, h0⟩, h0⟩, h0⟩, h0⟩, h0⟩, ⟨rfl, by exact ⟨hl, of_decide_eq_true h0⟩⟩⟩, h0⟩, h0⟩, h0⟩ rfl
  · skip
    rw [show .bool (rightE a l) = Value.bool false from by rw [rightE_no h0]]
    exact Rd.run pg (KM_ok x) (k29_1 x a l) ⟨⟨⟨⟨⟨⟨⟨⟨trivial, h0⟩, h0⟩, h0⟩, h0⟩, h0⟩, h0⟩, h0⟩, h0⟩ rfl
end
end ob
end Go.Proofs.YthpoeegoankpoaaGreat
namespace Go.Proofs.YthpoeegoankpoaaGreat
open Go.ChangeShapes Go.WideShapes Go.ChangeAt Go.RowKit Go.Cln
namespace ob
set_option linter.unusedVariables false
noncomputable section
def halfI (a : Int) : Nat → Int
  | 0 => a
  | k + 1 => IntKind.u32.wrap ((halfI a k).tdiv 2)
theorem halfI_eq {a : Int} (ha : 0 ≤ a ∧ a < 4294967296) : ∀ k, halfI a k = a / 2 ^ k ∧ 0 ≤ halfI a k ∧ halfI a k < 4294967296
  | 0 => ⟨by simp [halfI], ha.1, ha.2⟩
  | k + 1 => by
    obtain ⟨h1, h2, h3⟩ := halfI_eq ha k
    have e : halfI a (k + 1) = halfI a k / 2 := by
      show IntKind.u32.wrap ((halfI a k).tdiv 2) = _
      rw [Int.tdiv_eq_ediv_of_nonneg h2, IntKind.wrap_u32]
      omega
    refine ⟨?_, by rw [e]; omega, by rw [e]; omega⟩
    rw [e, h1, Int.pow_succ, Int.ediv_ediv_of_nonneg (Int.pow_nonneg (by decide))]
theorem half_bit {a : Int} (ha : 0 ≤ a ∧ a < 4294967296) (j : Int) : bitI a j = (halfI a (31 - j.toNat)).tmod 2 := by
  obtain ⟨h1, h2, h3⟩ := halfI_eq ha (31 - j.toNat)
  rw [Int.tmod_eq_emod_of_nonneg h2, h1]
  rfl
def b44 : Code := ((Tryz.prog.funcs[44]?).bind (·.body)).getD .skip
def l44 : Code := loopB Tryz.prog 44 0
def e44 : Code := dropC 2 b44
theorem fn44 : (Tryz.prog.funcs[44]?).map (fun f => (f.body, f.results.toList, f.ntmps)) = some (some b44, [.tmp 4], 16) := by kernel_rfl
noncomputable abbrev a44 (a j : Int) : List Value := [.int .u32 a, .int .i64 j]
noncomputable def z44 (x : MX) (a j : Int) : St := { smSt 1 [some (.fam x.F)] [] with tmps := a44 a j ++ List.replicate (16 - (a44 a j).length) undef, defers := [] }
noncomputable def tm44 (v : VF) (a j : Int) (i : Nat) : List Value := (.int .u32 (halfI a i) :: .int .i64 j :: vs v 2 3 (.int .i64 (nI i) :: vs v 6 10 []))
theorem tm44_dead {v : VF} {a j : Int} {i : Nat} {B : Nat → Bool} (h : ∀ i, DeadV (v i)) (hB : ∀ i, ((Nat.ble 0 i && Nat.ble i 1) || Nat.beq i 5) = true → B i = true) : deadT B 0 (tm44 v a j i) :=
  ⟨fun e => absurd e (by rw [hB 0 rfl]; decide), ⟨fun e => absurd e (by rw [hB 1 rfl]; decide), deadT_vs h 3 (⟨fun e => absurd e (by rw [hB 5 rfl]; decide), deadT_vs h 10 (trivial)⟩)⟩⟩
noncomputable def h44 (x : MX) (a j : Int) : Nat → Option Ob := fun i => match i with
  | 0 => some (.fam x.F)
  | _ => none
theorem h44_ok (x : MX) (a j : Int) : Go.Cln.RowsIn (h44 x a j) := by
  intro b n' w' g' t h
  unfold h44 at h
  split at h <;> first | (cases h; done) | cases h
noncomputable def s44 (x : MX) (a j : Int) (i : Nat) (v : VF) : St := ⟨tm44 v a j i, [], Tr.rebuild (h44 x a j) 1, 1, 1, [], fun _ => false, True, []⟩
noncomputable def go44 (K : Given) (c : Code) (s : St) (o : List (Option Bool)) : Option (Exit × St) := (mk Tryz.prog K 200).code 44 none c { s with obl := True, orc := o }
noncomputable def gd44 (K : Given) (s : St) (o : List (Option Bool)) : Option (St × Code) := down (mk Tryz.prog K 200) 44 none [2, 3, 2, 0] b44 { s with obl := True, orc := o }
def WD44 (i : Nat) : Bool := Nat.beq i 4
noncomputable def VD44 (v : VF) : VF := fun i => match WD44 i with
  | true => junk
  | false => v i
def BD44 (i : Nat) : Bool := ((Nat.ble 0 i && Nat.ble i 1) || Nat.beq i 5) || WD44 i
theorem VD44_dead {v : VF} (h : ∀ i, DeadV (v i)) (i : Nat) : DeadV (VD44 v i) := by
  unfold VD44
  split
  · exact DeadV.junk
  · exact h i
theorem lvD44 (i : Nat) (h : ((Nat.ble 0 i && Nat.ble i 1) || Nat.beq i 5) = true) : BD44 i = true := by
  unfold BD44
  simp only [Bool.or_eq_true] at h ⊢
  exact .inl h
def WR44 (i : Nat) : Bool := (Nat.ble 6 i && Nat.ble i 13)
noncomputable def VR44 (v : VF) : VF := fun i => match WR44 i with
  | true => junk
  | false => v i
def BR44 (i : Nat) : Bool := ((Nat.ble 0 i && Nat.ble i 1) || Nat.beq i 5) || WR44 i
theorem VR44_dead {v : VF} (h : ∀ i, DeadV (v i)) (i : Nat) : DeadV (VR44 v i) := by
  unfold VR44
  split
  · exact DeadV.junk
  · exact h i
theorem lvR44 (i : Nat) (h : ((Nat.ble 0 i && Nat.ble i 1) || Nat.beq i 5) = true) : BR44 i = true := by
  unfold BR44
  simp only [Bool.or_eq_true] at h ⊢
  exact .inl h
def WX44 (i : Nat) : Bool := (Nat.ble 6 i && Nat.ble i 9)
noncomputable def VX44 (v : VF) : VF := fun i => match WX44 i with
  | true => junk
  | false => v i
def BX44 (i : Nat) : Bool := ((Nat.ble 0 i && Nat.ble i 1) || Nat.beq i 5) || WX44 i
theorem VX44_dead {v : VF} (h : ∀ i, DeadV (v i)) (i : Nat) : DeadV (VX44 v i) := by
  unfold VX44
  split
  · exact DeadV.junk
  · exact h i
theorem lvX44 (i : Nat) (h : ((Nat.ble 0 i && Nat.ble i 1) || Nat.beq i 5) = true) : BX44 i = true := by
  unfold BX44
  simp only [Bool.or_eq_true] at h ⊢
  exact .inl h
def pD_44 (x : MX) (a j : Int) (i : Nat) : Prop := True
def pR_44 (x : MX) (a j : Int) (i : Nat) : Prop := (((True ∧ IntKind.i64.wrap (31 - j) = 31 - j) ∧ decide (nI i < 31 - j) = true) ∧ IntKind.i64.wrap (nI i + 1) = nI i + 1)
def pX_44 (x : MX) (a j : Int) (i : Nat) : Prop := ((True ∧ IntKind.i64.wrap (31 - j) = 31 - j) ∧ decide (nI i < 31 - j) = false)
def pE0_44 (x : MX) (a j : Int) (i : Nat) : Prop := True
theorem kD44 (x : MX) (a j : Int) : (gd44 KN (z44 x a j) []).map (fun r => (r.2, r.1.obl, seenInT BD44 r.1 (s44 x a j 0 (VD44 vU)) [0])) = some (.loop l44, pD_44 x a j 0, seenAsT BD44 (s44 x a j 0 (VD44 vU)) [0] 1) := by kernel_rfl
theorem kR44 (x : MX) (a j : Int) (i : Nat) (v : VF) : (go44 KN l44 (s44 x a j i v) [some true, some true, some true]).map (fun r => (r.1, r.2.obl, seenInT BR44 r.2 (s44 x a j (i + 1) (VR44 v)) [0])) = some (.normal, pR_44 x a j i, seenAsT BR44 (s44 x a j (i + 1) (VR44 v)) [0] 1) := by kernel_rfl
theorem kX44 (x : MX) (a j : Int) (i : Nat) (v : VF) : (go44 KN l44 (s44 x a j i v) [some true, some false]).map (fun r => (r.1, r.2.obl, seenInT BX44 r.2 (s44 x a j i (VX44 v)) [0])) = some (.exit 0, pX_44 x a j i, seenAsT BX44 (s44 x a j i (VX44 v)) [0] 1) := by kernel_rfl
theorem kE0_44 (x : MX) (a j : Int) (i : Nat) (v : VF) : (go44 KN e44 (s44 x a j i v) []).bind (fun r => (results1 Tryz.prog r.2 [.tmp 4]).map fun q => (r.1, q.2.obl, r.2.defers, oneOf q.1)) = some (.ret, pE0_44 x a j i, [], .int .u32 ((halfI a i).tmod 2)) := by kernel_rfl
theorem okD44 (x : MX) (a j : Int) (i : Nat) (v : VF) : picOkT BD44 (z44 x a j) (s44 x a j i (VD44 v)) [0] = true := by kernel_rfl
theorem okR44 (x : MX) (a j : Int) (i : Nat) (v : VF) : picOkT BR44 (z44 x a j) (s44 x a j i (VR44 v)) [0] = true := by kernel_rfl
theorem okX44 (x : MX) (a j : Int) (i : Nat) (v : VF) : picOkT BX44 (z44 x a j) (s44 x a j i (VX44 v)) [0] = true := by kernel_rfl
theorem up44 (x : MX) (a j : Int) (Q_ : Exit → St → Prop) : upQ Tryz.prog none (z44 x a j) [2, 3, 2, 0] b44 Q_ = fun e s => (fun e s => (e = .normal ∧ StepG Tryz.prog none (z44 x a j) e44 s Q_) ∨ (e ≠ .normal ∧ Q_ e s)) (blockOut 0 e) s := by kernel_rfl
theorem rd44 {x : MX} {a j : Int} (ha : 0 ≤ a ∧ a < 4294967296) (hj : 0 ≤ j ∧ j ≤ 31) : Rd Tryz.prog x.F 44 (a44 a j) (.int .u32 (bitI a j)) := by
  refine find_rd (way := [2, 3, 2, 0]) (pic := fun i v => s44 x a j i v) (e := fun _ => true) (N := (31 - j.toNat)) (v0 := VD44 vU) (s0 := z44 x a j) rfl fn44 rfl (fun Q_ h => StepG.downs pg KN_ok (kD44 x a j) (trivial) (tm44_dead (VD44_dead vU_dead) lvD44) (h44_ok x a j) rfl (okD44 x a j 0 vU) h) (up44 x a j) (fun i v hv hi he => ?_) (fun i v hv hi hp he => ?_) (fun v hv => ?_) (fun hall v hv => ?_) (VD44_dead vU_dead)
  · refine (StepG.stdT (s0 := z44 x a j) (rd := none) pg KN_ok (kR44 x a j i v) ?_ (show 1 ≤ 1 by decide) (tm44_dead (VR44_dead hv) lvR44) (h44_ok x a j) rfl (okR44 x a j (i + 1) v)).mono ?_
    · exact ⟨⟨⟨trivial, by rw [IntKind.wrap_i64]; omega⟩, decide_eq_true (by unfold nI; omega)⟩, by rw [IntKind.wrap_i64]; unfold nI; omega⟩
    · rintro ex s_ ⟨rfl, rfl⟩
      exact ⟨rfl, _, VR44_dead hv, rfl⟩
  · cases he
  · refine (StepG.stdT (s0 := z44 x a j) (rd := none) pg KN_ok (kX44 x a j (31 - j.toNat) v) ⟨⟨trivial, by rw [IntKind.wrap_i64]; omega⟩, decide_eq_false (by unfold nI; omega)⟩ (show 1 ≤ 1 by decide) (tm44_dead (VX44_dead hv) lvX44) (h44_ok x a j) rfl (okX44 x a j (31 - j.toNat) v)).mono ?_
    rintro ex s_ ⟨rfl, rfl⟩
    exact ⟨rfl, _, VX44_dead hv, rfl⟩
  · have e : bitI a j = (halfI a (31 - j.toNat)).tmod 2 := half_bit ha _
    rw [e]
    exact StepG.ranV (s0 := z44 x a j) (rd := none) pg KN_ok (kE0_44 x a j (31 - j.toNat) v) trivial (show 1 ≤ 1 by decide)
end
end ob
end Go.Proofs.YthpoeegoankpoaaGreat
namespace Go.Proofs.YthpoeegoankpoaaGreat
open Go.ChangeShapes Go.WideShapes Go.ChangeAt Go.RowKit Go.Cln
namespace ob
set_option linter.unusedVariables false
noncomputable section
def pvOf (a : Array Value) : Option (Int × Int) := match a.toList with
  | [.int .u32 a, .int .u8 l] => some (a, l)
  | _ => none
theorem pvOf_eq {a : Array Value} {u : Int × Int} (h : pvOf a = some u) : Value.agg a = pv u.1 u.2 := by
  unfold pvOf at h
  split at h
  · rename_i e
    cases h
    exact congrArg Value.agg (by rw [← Array.toList_inj, e] <;> rfl)
  · cases h
def legOf (a : Array Value) : Option (Bool × Nat × Nat × Nat) := match a.toList with
  | [.bool s, .slice (some ⟨P, 0, some 1001⟩) n c] => some (s, P, n, c)
  | _ => none
theorem legOf_eq {a : Array Value} {u : Bool × Nat × Nat × Nat} (h : legOf a = some u) : Value.agg a = .agg #[.bool u.1, PU u.2.1 u.2.2.1 u.2.2.2] := by
  unfold legOf at h
  split at h
  · rename_i e
    cases h
    exact congrArg Value.agg (by rw [← Array.toList_inj, e] <;> rfl)
  · cases h
def poOf (a : Array Value) : Option (Nat × Nat × Nat × Bool) := match a.toList with
  | [.slice (some ⟨P, 0, some 1000⟩) n c, .bool e] => some (P, n, c, e)
  | _ => none
theorem poOf_eq {a : Array Value} {u : Nat × Nat × Nat × Bool} (h : poOf a = some u) : Value.agg a = .agg #[PR u.1 u.2.1 u.2.2.1, .bool u.2.2.2] := by
  unfold poOf at h
  split at h
  · rename_i e
    cases h
    exact congrArg Value.agg (by rw [← Array.toList_inj, e] <;> rfl)
  · cases h
def avOf (a : Array Value) : Option (AV) := match a.toList with
  | [.int .u8 o, .slice (some ⟨P, 0, some 1002⟩) n c, .int .u32 nx, .bool hm, .int .u32 m, .bool hp, .int .u32 p, .slice (some ⟨Q, 0, some 1001⟩) k d] => some ⟨o, P, n, c, nx, hm, m, hp, p, Q, k, d⟩
  | _ => none
theorem avOf_eq {a : Array Value} {u : AV} (h : avOf a = some u) : Value.agg a = u.v := by
  unfold avOf at h
  split at h
  · rename_i e
    cases h
    exact congrArg Value.agg (by rw [← Array.toList_inj, e] <;> rfl)
  · cases h
def rvOf (a : Array Value) : Option (RV) := match a.toList with
  | [.int .u32 yA, .int .u8 yB, .int .u8 yC, .int .u8 yD, .bool yE, .int .u32 yG, .int .u32 yH, .bool yI, .bool yJ, .bool yK, .bool yL, .int .u32 yM, .int .u32 yO, .int .u32 yQ, .int .u8 yT] => some ⟨yA, yB, yC, yD, yE, yG, yH, yI, yJ, yK, yL, yM, yO, yQ, yT⟩
  | _ => none
theorem rvOf_eq {a : Array Value} {u : RV} (h : rvOf a = some u) : Value.agg a = u.v := by
  unfold rvOf at h
  split at h
  · rename_i e
    cases h
    exact congrArg Value.agg (by rw [← Array.toList_inj, e] <;> rfl)
  · cases h
def pvOk (a l : Int) : Prop := (0 ≤ a ∧ a < 4294967296) ∧ 0 ≤ l
noncomputable def rw29 (x : MX) (args : List Value) : Option (Value × Prop) := match args with
  | [.agg z0] => (pvOf z0).bind fun u => some (.bool (rightE u.1 u.2), pvOk u.1 u.2)
  | _ => none
theorem rw29_ok (x : MX) {args : List Value} {r : Value × Prop} (h : rw29 x args = some r) : flat r.1 = true ∧ args.all farV = true ∧ (r.2 → Rd Tryz.prog x.F 29 args r.1) := by
  unfold rw29 at h
  split at h
  · rename_i z0
    rw [Option.bind_eq_some_iff] at h
    obtain ⟨u, hu, h⟩ := h
    cases h
    rw [pvOf_eq hu]
    exact ⟨rfl, rfl, fun hp => rd29 hp.1 hp.2⟩
  · cases h
noncomputable def rw44 (x : MX) (args : List Value) : Option (Value × Prop) := match args with
  | [.int .u32 a, .int .i64 j] => some (.int .u32 (bitI a j), (0 ≤ a ∧ a < 4294967296) ∧ (0 ≤ j ∧ j ≤ 31))
  | _ => none
theorem rw44_ok (x : MX) {args : List Value} {r : Value × Prop} (h : rw44 x args = some r) : flat r.1 = true ∧ args.all farV = true ∧ (r.2 → Rd Tryz.prog x.F 44 args r.1) := by
  unfold rw44 at h
  split at h
  · rename_i a j
    cases h
    exact ⟨rfl, rfl, fun hp => rd44 hp.1 hp.2⟩
  · cases h
noncomputable def TB (x : MX) (f : FuncId) (args : List Value) : Option (Value × Prop) := if f == 29 then rw29 x args else if f == 44 then rw44 x args else TM f args
theorem TB_ok (x : MX) (f : FuncId) (args : List Value) (r : Value × Prop) (h : TB x f args = some r) : flat r.1 = true ∧ args.all farV = true ∧ (r.2 → Rd Tryz.prog x.F f args r.1) := by
  unfold TB at h
  by_cases e29 : (f == 29) = true
  · have hf : f = 29 := by simpa using e29
    subst hf
    exact rw29_ok x h
  rw [if_neg e29] at h
  by_cases e44 : (f == 44) = true
  · have hf : f = 44 := by simpa using e44
    subst hf
    exact rw44_ok x h
  rw [if_neg e44] at h
  exact TM_ok x f args r h
noncomputable def KB (x : MX) : Given := { Given.rds Given.nothing x.F (TB x) with fits := true }
theorem KB_ok (x : MX) : GivenOk Tryz.prog (KB x) := frames_fits ((GivenOk.nothing _).rds (TB_ok x)) true
end
end ob
end Go.Proofs.YthpoeegoankpoaaGreat
namespace Go.Proofs.YthpoeegoankpoaaGreat
open Go.ChangeShapes Go.WideShapes Go.ChangeAt Go.RowKit Go.Cln
namespace ob
set_option linter.unusedVariables false
noncomputable section
def upI (l : Int) : Nat → Int
  | 0 => l
  | k + 1 => upI l k + 1
theorem upI_eq (l : Int) : ∀ k, upI l k = l + (k : Int)
  | 0 => by simp [upI]
  | k + 1 => by unfold upI; rw [upI_eq l k]; omega
def offE (a l : Int) (i : Nat) : Bool := !(bitI a (upI l i) == 1)
theorem rightE_bits {a l : Int} (ha : 0 ≤ a ∧ a < 4294967296) (hl : 0 ≤ l) (h : decide (l > 32) = false) : rightE a l = allB (offE a l) (32 - l.toNat) := by
  obtain ⟨k, rfl⟩ := Int.eq_ofNat_of_zero_le ha.1
  obtain ⟨m, rfl⟩ := Int.eq_ofNat_of_zero_le hl
  have hm : m ≤ 32 := by have := of_decide_eq_false h; omega
  have key := right_bits (a := k) (l := m) (by omega) hm
  have e : rightE (k : Int) (m : Int) = decide (k % 2 ^ (32 - m) = 0) := by
    unfold rightE
    rw [decide_eq_true (show (m : Int) ≤ 32 by omega), Bool.true_and]
    have e : ((k : Int) % 2 ^ (32 - (m : Int).toNat)) = ((k % 2 ^ (32 - m) : Nat) : Int) := by simp
    rw [e]
    apply Bool.eq_iff_iff.2
    simp only [decide_eq_true_eq]
    omega
  rw [e]
  apply Bool.eq_iff_iff.2
  rw [decide_eq_true_eq, allB_iff, ← key]
  have e2 : ∀ i, offE (k : Int) (m : Int) i = true ↔ (bitI (k : Int) ((m + i : Nat) : Int) == 1) = false := fun i => by
    unfold offE
    rw [upI_eq, show (m : Int) + (i : Int) = ((m + i : Nat) : Int) by omega]
    cases (bitI (k : Int) ((m + i : Nat) : Int) == 1) <;> simp
  constructor
  · intro h i hi
    exact (e2 i).2 (h i (by simpa using hi))
  · intro h i hi
    exact (e2 i).1 (h i (by simpa using hi))
theorem rightE_long {a l : Int} (h : decide (l > 32) = true) : rightE a l = false := by
  have := of_decide_eq_true h
  unfold rightE
  rw [decide_eq_false (show ¬ l ≤ 32 by omega)]
  rfl
def b20 : Code := ((Tryz.prog.funcs[20]?).bind (·.body)).getD .skip
def l20 : Code := loopB Tryz.prog 20 0
def e20 : Code := dropC 3 b20
theorem fn20 : (Tryz.prog.funcs[20]?).map (fun f => (f.body, f.results.toList, f.ntmps)) = some (some b20, [.tmp 2], 19) := by kernel_rfl
noncomputable abbrev a20 (a l : Int) : List Value := [pv a l]
noncomputable def z20 (x : MX) (a l : Int) : St := { smSt 1 [some (.fam x.F)] [] with tmps := a20 a l ++ List.replicate (19 - (a20 a l).length) undef, defers := [] }
noncomputable def tm20 (v : VF) (a l : Int) (i : Nat) : List Value := (pv a l :: .pointer (some ⟨1, 0, none⟩) :: v 2 :: .int .i64 (upI l i) :: vs v 4 15 [])
theorem tm20_dead {v : VF} {a l : Int} {i : Nat} {B : Nat → Bool} (h : ∀ i, DeadV (v i)) (hB : ∀ i, ((Nat.ble 0 i && Nat.ble i 1) || Nat.beq i 3) = true → B i = true) : deadT B 0 (tm20 v a l i) :=
  ⟨fun e => absurd e (by rw [hB 0 rfl]; decide), ⟨fun e => absurd e (by rw [hB 1 rfl]; decide), ⟨fun _ => h 2, ⟨fun e => absurd e (by rw [hB 3 rfl]; decide), deadT_vs h 15 (trivial)⟩⟩⟩⟩
noncomputable def h20 (x : MX) (a l : Int) : Nat → Option Ob := fun i => match i with
  | 0 => some (.fam x.F)
  | 1 => some (.cells (.lit [.int .u32 a, .int .u8 l]) 24)
  | _ => none
theorem h20_ok (x : MX) (a l : Int) : Go.Cln.RowsIn (h20 x a l) := by
  intro b n' w' g' t h
  unfold h20 at h
  split at h <;> first | (cases h; done) | cases h
noncomputable def s20 (x : MX) (a l : Int) (i : Nat) (v : VF) : St := ⟨tm20 v a l i, [], Tr.rebuild (h20 x a l) 2, 2, 1, [], fun _ => false, True, []⟩
noncomputable def go20 (K : Given) (c : Code) (s : St) (o : List (Option Bool)) : Option (Exit × St) := (mk Tryz.prog K 200).code 20 none c { s with obl := True, orc := o }
noncomputable def gd20 (K : Given) (s : St) (o : List (Option Bool)) : Option (St × Code) := down (mk Tryz.prog K 200) 20 none [2, 2, 3, 2, 0] b20 { s with obl := True, orc := o }
def WD20 (i : Nat) : Bool := Nat.beq i 2 || (Nat.ble 4 i && Nat.ble i 9)
noncomputable def VD20 (v : VF) : VF := fun i => match WD20 i with
  | true => junk
  | false => v i
def BD20 (i : Nat) : Bool := ((Nat.ble 0 i && Nat.ble i 1) || Nat.beq i 3) || WD20 i
theorem VD20_dead {v : VF} (h : ∀ i, DeadV (v i)) (i : Nat) : DeadV (VD20 v i) := by
  unfold VD20
  split
  · exact DeadV.junk
  · exact h i
theorem lvD20 (i : Nat) (h : ((Nat.ble 0 i && Nat.ble i 1) || Nat.beq i 3) = true) : BD20 i = true := by
  unfold BD20
  simp only [Bool.or_eq_true] at h ⊢
  exact .inl h
def WR20 (i : Nat) : Bool := (Nat.ble 10 i && Nat.ble i 18)
noncomputable def VR20 (v : VF) : VF := fun i => match WR20 i with
  | true => junk
  | false => v i
def BR20 (i : Nat) : Bool := ((Nat.ble 0 i && Nat.ble i 1) || Nat.beq i 3) || WR20 i
theorem VR20_dead {v : VF} (h : ∀ i, DeadV (v i)) (i : Nat) : DeadV (VR20 v i) := by
  unfold VR20
  split
  · exact DeadV.junk
  · exact h i
theorem lvR20 (i : Nat) (h : ((Nat.ble 0 i && Nat.ble i 1) || Nat.beq i 3) = true) : BR20 i = true := by
  unfold BR20
  simp only [Bool.or_eq_true] at h ⊢
  exact .inl h
def WX20 (i : Nat) : Bool := (Nat.ble 10 i && Nat.ble i 11)
noncomputable def VX20 (v : VF) : VF := fun i => match WX20 i with
  | true => junk
  | false => v i
def BX20 (i : Nat) : Bool := ((Nat.ble 0 i && Nat.ble i 1) || Nat.beq i 3) || WX20 i
theorem VX20_dead {v : VF} (h : ∀ i, DeadV (v i)) (i : Nat) : DeadV (VX20 v i) := by
  unfold VX20
  split
  · exact DeadV.junk
  · exact h i
theorem lvX20 (i : Nat) (h : ((Nat.ble 0 i && Nat.ble i 1) || Nat.beq i 3) = true) : BX20 i = true := by
  unfold BX20
  simp only [Bool.or_eq_true] at h ⊢
  exact .inl h
def pD_20 (x : MX) (a l : Int) (i : Nat) : Prop := ((True ∧ decide (l > 32) = false) ∧ IntKind.i64.wrap l = l)
def pR_20 (x : MX) (a l : Int) (i : Nat) : Prop := ((((True ∧ decide (upI l i < 32) = true) ∧ x.F = x.F ∧ ((0 ≤ a ∧ a < 4294967296) ∧ (0 ≤ upI l i ∧ upI l i ≤ 31))) ∧ (bitI a (upI l i) == 1) = false) ∧ IntKind.i64.wrap (upI l i + 1) = upI l i + 1)
def pX_20 (x : MX) (a l : Int) (i : Nat) : Prop := (True ∧ decide (upI l i < 32) = false)
def pN0_20 (x : MX) (a l : Int) (i : Nat) : Prop := (True ∧ decide (l > 32) = true)
def pF0_20 (x : MX) (a l : Int) (i : Nat) : Prop := (((True ∧ decide (upI l i < 32) = true) ∧ x.F = x.F ∧ ((0 ≤ a ∧ a < 4294967296) ∧ (0 ≤ upI l i ∧ upI l i ≤ 31))) ∧ (bitI a (upI l i) == 1) = true)
def pE0_20 (x : MX) (a l : Int) (i : Nat) : Prop := True
theorem kD20 (x : MX) (a l : Int) : (gd20 (KB x) (z20 x a l) [some false, some true]).map (fun r => (r.2, r.1.obl, seenInT BD20 r.1 (s20 x a l 0 (VD20 vU)) [0, 1])) = some (.loop l20, pD_20 x a l 0, seenAsT BD20 (s20 x a l 0 (VD20 vU)) [0, 1] 2) := by kernel_rfl
theorem kN0_20 (x : MX) (a l : Int) : ((mk Tryz.prog (KB x) 200).call 20 (a20 a l) (smSt 1 [some (.fam x.F)] [some true])).map (fun r => (r.1, r.2.obl)) = some (.bool false, pN0_20 x a l 0) := by kernel_rfl
theorem kR20 (x : MX) (a l : Int) (i : Nat) (v : VF) : (go20 (KB x) l20 (s20 x a l i v) [some true, some false, some true]).map (fun r => (r.1, r.2.obl, seenInT BR20 r.2 (s20 x a l (i + 1) (VR20 v)) [0, 1])) = some (.normal, pR_20 x a l i, seenAsT BR20 (s20 x a l (i + 1) (VR20 v)) [0, 1] 2) := by kernel_rfl
theorem kX20 (x : MX) (a l : Int) (i : Nat) (v : VF) : (go20 (KB x) l20 (s20 x a l i v) [some false]).map (fun r => (r.1, r.2.obl, seenInT BX20 r.2 (s20 x a l i (VX20 v)) [0, 1])) = some (.exit 0, pX_20 x a l i, seenAsT BX20 (s20 x a l i (VX20 v)) [0, 1] 2) := by kernel_rfl
theorem kF0_20 (x : MX) (a l : Int) (i : Nat) (v : VF) : (go20 (KB x) l20 (s20 x a l i v) [some true, some true]).bind (fun r => (results1 Tryz.prog r.2 [.tmp 2]).map fun q => (r.1, q.2.obl, r.2.defers, oneOf q.1)) = some (.ret, pF0_20 x a l i, [], .bool false) := by kernel_rfl
theorem kE0_20 (x : MX) (a l : Int) (i : Nat) (v : VF) : (go20 (KB x) e20 (s20 x a l i v) []).bind (fun r => (results1 Tryz.prog r.2 [.tmp 2]).map fun q => (r.1, q.2.obl, r.2.defers, oneOf q.1)) = some (.ret, pE0_20 x a l i, [], .bool true) := by kernel_rfl
theorem okD20 (x : MX) (a l : Int) (i : Nat) (v : VF) : picOkT BD20 (z20 x a l) (s20 x a l i (VD20 v)) [0, 1] = true := by kernel_rfl
theorem okR20 (x : MX) (a l : Int) (i : Nat) (v : VF) : picOkT BR20 (z20 x a l) (s20 x a l i (VR20 v)) [0, 1] = true := by kernel_rfl
theorem okX20 (x : MX) (a l : Int) (i : Nat) (v : VF) : picOkT BX20 (z20 x a l) (s20 x a l i (VX20 v)) [0, 1] = true := by kernel_rfl
theorem up20 (x : MX) (a l : Int) (Q_ : Exit → St → Prop) : upQ Tryz.prog none (z20 x a l) [2, 2, 3, 2, 0] b20 Q_ = fun e s => (fun e s => (e = .normal ∧ StepG Tryz.prog none (z20 x a l) e20 s Q_) ∨ (e ≠ .normal ∧ Q_ e s)) (blockOut 0 e) s := by kernel_rfl
theorem rd20 {x : MX} {a l : Int} (ha : 0 ≤ a ∧ a < 4294967296) (hl : 0 ≤ l) : Rd Tryz.prog x.F 20 (a20 a l) (.bool (rightE a l)) := by
  rcases Bool.eq_false_or_eq_true (decide (l > 32)) with h0 | h0
  · rw [rightE_long h0]
    exact Rd.run pg (KB_ok x) (kN0_20 x a l) ⟨trivial, h0⟩ rfl
  have h1 := of_decide_eq_false h0
  rw [rightE_bits ha hl h0]
  refine find_rd (way := [2, 2, 3, 2, 0]) (pic := fun i v => s20 x a l i v) (e := offE a l) (N := (32 - l.toNat)) (v0 := VD20 vU) (s0 := z20 x a l) rfl fn20 rfl (fun Q_ h => StepG.downs pg (KB_ok x) (kD20 x a l) (⟨⟨trivial, h0⟩, by rw [IntKind.wrap_i64]; omega⟩) (tm20_dead (VD20_dead vU_dead) lvD20) (h20_ok x a l) rfl (okD20 x a l 0 vU) h) (up20 x a l) (fun i v hv hi he => ?_) (fun i v hv hi hp he => ?_) (fun v hv => ?_) (fun hall v hv => ?_) (VD20_dead vU_dead)
  · refine (StepG.stdT (s0 := z20 x a l) (rd := none) pg (KB_ok x) (kR20 x a l i v) ?_ (show 1 ≤ 2 by decide) (tm20_dead (VR20_dead hv) lvR20) (h20_ok x a l) rfl (okR20 x a l (i + 1) v)).mono ?_
    · exact ⟨⟨⟨⟨trivial, decide_eq_true (by rw [upI_eq]; omega)⟩, ⟨rfl, ha, by rw [upI_eq]; omega⟩⟩, by unfold offE at he; simpa using he⟩, by rw [IntKind.wrap_i64, upI_eq]; omega⟩
    · rintro ex s_ ⟨rfl, rfl⟩
      exact ⟨rfl, _, VR20_dead hv, rfl⟩
  · rw [allB_no he hi]
    exact StepG.ranV (s0 := z20 x a l) (rd := none) pg (KB_ok x) (kF0_20 x a l i v) ⟨⟨⟨trivial, decide_eq_true (by rw [upI_eq]; omega)⟩, ⟨rfl, ha, by rw [upI_eq]; omega⟩⟩, by unfold offE at he; simpa using he⟩ (show 1 ≤ 2 by decide)
  · refine (StepG.stdT (s0 := z20 x a l) (rd := none) pg (KB_ok x) (kX20 x a l (32 - l.toNat) v) ⟨trivial, decide_eq_false (by rw [upI_eq]; omega)⟩ (show 1 ≤ 2 by decide) (tm20_dead (VX20_dead hv) lvX20) (h20_ok x a l) rfl (okX20 x a l (32 - l.toNat) v)).mono ?_
    rintro ex s_ ⟨rfl, rfl⟩
    exact ⟨rfl, _, VX20_dead hv, rfl⟩
  · rw [allB_all hall]
    exact StepG.ranV (s0 := z20 x a l) (rd := none) pg (KB_ok x) (kE0_20 x a l (32 - l.toNat) v) trivial (show 1 ≤ 2 by decide)
end
end ob
end Go.Proofs.YthpoeegoankpoaaGreat
namespace Go.Proofs.YthpoeegoankpoaaGreat
open Go.ChangeShapes Go.WideShapes Go.ChangeAt Go.RowKit Go.Cln
namespace ob
set_option linter.unusedVariables false
noncomputable section
theorem right_le {a l : Int} (h : rightE a l = true) : l ≤ 32 := by
  unfold rightE at h
  rw [Bool.and_eq_true] at h
  exact of_decide_eq_true h.1
theorem covers_on {a l b : Int} (ha : 0 ≤ a ∧ a < 4294967296) (hl : 0 ≤ l) (hb : 0 ≤ b ∧ b < 4294967296) (h : rightE a l = true) : (bitsOn b l == a) = decide (b / 2 ^ (32 - l.toNat) = a / 2 ^ (32 - l.toNat)) := by
  obtain ⟨k, rfl⟩ := Int.eq_ofNat_of_zero_le ha.1
  obtain ⟨j, rfl⟩ := Int.eq_ofNat_of_zero_le hb.1
  have h32 := right_le h
  rw [bitsOn_eq (by omega) ⟨hl, h32⟩]
  unfold rightE at h
  rw [Bool.and_eq_true] at h
  have h2 := of_decide_eq_true h.2
  generalize hp : (2 : Nat) ^ (32 - l.toNat) = p at *
  have hpp : 0 < p := by rw [← hp]; exact Nat.pow_pos (by decide)
  have e : ((2 : Int) ^ (32 - l.toNat)) = (p : Int) := by rw [← hp]; simp
  rw [e] at h2 ⊢
  have h3 : k % p = 0 := by exact_mod_cast h2
  have h4 : k = k / p * p := by have := Nat.div_add_mod k p; rw [h3, Nat.add_zero, Nat.mul_comm] at this; exact this.symm
  apply Bool.eq_iff_iff.2
  rw [beq_iff_eq, decide_eq_true_eq]
  rw [← Int.natCast_ediv, ← Int.natCast_ediv, Int.ofNat_inj, Int.ofNat_inj]
  constructor
  · intro h5
    rw [← h5, Nat.mul_div_cancel _ hpp]
  · intro h5
    rw [h5]
    exact h4.symm
theorem k38_0 (x : MX) (a l b m : Int) : ((mk Tryz.prog (KB x) 200).call 38 [pv a l, pv b m] (smSt 1 [some (.fam x.F)] [some true, some true, some true, some true, some true, some true, some true, some true, some true, some true, some true, some true, some true, some true, some true, some true, some true, some true, some true, some true, some true, some true, some true])).map (fun r => (r.1, r.2.obl)) = some (Value.bool true, ((((((((((((((((((((((((((True ∧ (x.F = x.F ∧ (pvOk a l))) ∧ (rightE a l) = true) ∧ (rightE a l) = true) ∧ (x.F = x.F ∧ (pvOk b m))) ∧ (rightE a l) = true) ∧ (rightE b m) = true) ∧ (rightE b m) = true) ∧ (rightE b m) = true) ∧ (rightE b m) = true) ∧ (rightE b m) = true) ∧ (rightE b m) = true) ∧ (decide (l ≤ m)) = true) ∧ (decide (l ≤ m)) = true) ∧ (decide (l ≤ m)) = true) ∧ (decide (l ≤ m)) = true) ∧ (decide (l ≤ m)) = true) ∧ (decide (l ≤ m)) = true) ∧ (decide (l ≤ m)) = true) ∧ (decide (l ≤ m)) = true) ∧ (x.F = x.F ∧ (0 ≤ l ∧ l ≤ 32))) ∧ (decide (l ≤ m)) = true) ∧ (decide (l ≤ m)) = true) ∧ (decide (l ≤ m)) = true) ∧ (bitsOn b l == a) = true) ∧ (l == l) = true) ∧ (decide (l ≤ m)) = true)) := by kernel_rfl
theorem k38_1 (x : MX) (a l b m : Int) : ((mk Tryz.prog (KB x) 200).call 38 [pv a l, pv b m] (smSt 1 [some (.fam x.F)] [some false, some false, some false, some false, some false, some false, some false, some false, some false, some false, some false, some false, some false, some false, some false, some false, some false, some false, some false, some false, some false])).map (fun r => (r.1, r.2.obl)) = some (Value.bool false, ((((((((((((((((((((((True ∧ (x.F = x.F ∧ (pvOk a l))) ∧ (rightE a l) = false) ∧ (rightE a l) = false) ∧ (rightE a l) = false) ∧ (false) = false) ∧ (false) = false) ∧ (false) = false) ∧ (false) = false) ∧ (false) = false) ∧ (false) = false) ∧ (false) = false) ∧ (false) = false) ∧ (false) = false) ∧ (false) = false) ∧ (false) = false) ∧ (false) = false) ∧ (false) = false) ∧ (false) = false) ∧ (false) = false) ∧ (false) = false) ∧ (false) = false) ∧ (false) = false)) := by kernel_rfl
theorem k38_2 (x : MX) (a l b m : Int) : ((mk Tryz.prog (KB x) 200).call 38 [pv a l, pv b m] (smSt 1 [some (.fam x.F)] [some true, some true, some true, some false, some false, some false, some false, some false, some false, some false, some false, some false, some false, some false, some false, some false, some false, some false, some false, some false, some false])).map (fun r => (r.1, r.2.obl)) = some (Value.bool false, (((((((((((((((((((((((True ∧ (x.F = x.F ∧ (pvOk a l))) ∧ (rightE a l) = true) ∧ (rightE a l) = true) ∧ (x.F = x.F ∧ (pvOk b m))) ∧ (rightE a l) = true) ∧ (rightE b m) = false) ∧ (rightE b m) = false) ∧ (rightE b m) = false) ∧ (rightE b m) = false) ∧ (rightE b m) = false) ∧ (rightE b m) = false) ∧ (false) = false) ∧ (false) = false) ∧ (false) = false) ∧ (false) = false) ∧ (false) = false) ∧ (false) = false) ∧ (false) = false) ∧ (false) = false) ∧ (false) = false) ∧ (false) = false) ∧ (false) = false) ∧ (false) = false)) := by kernel_rfl
theorem k38_3 (x : MX) (a l b m : Int) : ((mk Tryz.prog (KB x) 200).call 38 [pv a l, pv b m] (smSt 1 [some (.fam x.F)] [some true, some true, some true, some true, some true, some true, some true, some true, some true, some false, some false, some false, some false, some false, some false, some false, some false, some false, some false, some false, some false])).map (fun r => (r.1, r.2.obl)) = some (Value.bool false, (((((((((((((((((((((((True ∧ (x.F = x.F ∧ (pvOk a l))) ∧ (rightE a l) = true) ∧ (rightE a l) = true) ∧ (x.F = x.F ∧ (pvOk b m))) ∧ (rightE a l) = true) ∧ (rightE b m) = true) ∧ (rightE b m) = true) ∧ (rightE b m) = true) ∧ (rightE b m) = true) ∧ (rightE b m) = true) ∧ (rightE b m) = true) ∧ (decide (l ≤ m)) = false) ∧ (decide (l ≤ m)) = false) ∧ (decide (l ≤ m)) = false) ∧ (decide (l ≤ m)) = false) ∧ (decide (l ≤ m)) = false) ∧ (decide (l ≤ m)) = false) ∧ (decide (l ≤ m)) = false) ∧ (decide (l ≤ m)) = false) ∧ (decide (l ≤ m)) = false) ∧ (decide (l ≤ m)) = false) ∧ (decide (l ≤ m)) = false) ∧ (decide (l ≤ m)) = false)) := by kernel_rfl
theorem k38_4 (x : MX) (a l b m : Int) : ((mk Tryz.prog (KB x) 200).call 38 [pv a l, pv b m] (smSt 1 [some (.fam x.F)] [some true, some true, some true, some true, some true, some true, some true, some true, some true, some true, some true, some true, some true, some true, some true, some true, some true, some true, some true, some true, some false, some true])).map (fun r => (r.1, r.2.obl)) = some (Value.bool false, (((((((((((((((((((((((((True ∧ (x.F = x.F ∧ (pvOk a l))) ∧ (rightE a l) = true) ∧ (rightE a l) = true) ∧ (x.F = x.F ∧ (pvOk b m))) ∧ (rightE a l) = true) ∧ (rightE b m) = true) ∧ (rightE b m) = true) ∧ (rightE b m) = true) ∧ (rightE b m) = true) ∧ (rightE b m) = true) ∧ (rightE b m) = true) ∧ (decide (l ≤ m)) = true) ∧ (decide (l ≤ m)) = true) ∧ (decide (l ≤ m)) = true) ∧ (decide (l ≤ m)) = true) ∧ (decide (l ≤ m)) = true) ∧ (decide (l ≤ m)) = true) ∧ (decide (l ≤ m)) = true) ∧ (decide (l ≤ m)) = true) ∧ (x.F = x.F ∧ (0 ≤ l ∧ l ≤ 32))) ∧ (decide (l ≤ m)) = true) ∧ (decide (l ≤ m)) = true) ∧ (decide (l ≤ m)) = true) ∧ (bitsOn b l == a) = false) ∧ (decide (l ≤ m)) = true)) := by kernel_rfl
theorem rd38 {x : MX} {a l b m : Int} (ha : 0 ≤ a ∧ a < 4294967296) (hl : 0 ≤ l) (hb : 0 ≤ b ∧ b < 4294967296) (hm : 0 ≤ m) : Rd Tryz.prog x.F 38 [pv a l, pv b m] (.bool (coversE a l b m)) := by
  rcases Bool.eq_false_or_eq_true (rightE a l) with h0 | h0
  · skip
    rcases Bool.eq_false_or_eq_true (rightE b m) with h1 | h1
    · skip
      rcases Bool.eq_false_or_eq_true (decide (l ≤ m)) with h2 | h2
      · skip
        rcases Bool.eq_false_or_eq_true (bitsOn b l == a) with h3 | h3
        · skip
          have h4 : (l == l) = true := beq_self_eq_true l
          rw [show (.bool (coversE a l b m) : Value) = Value.bool true from by unfold coversE; rw [← covers_on ha hl hb h0, h0, h1, h2, h3]; rfl]
          exact Rd.run pg (KB_ok x) (k38_0 x a l b m) ⟨⟨⟨⟨⟨⟨⟨⟨⟨⟨⟨⟨⟨⟨⟨⟨⟨⟨⟨⟨⟨⟨⟨⟨⟨⟨trivial, ⟨rfl, by exact ⟨ha, hl⟩⟩⟩, h0⟩, h0⟩, ⟨rfl, by exact ⟨hb, hm⟩⟩⟩, h0⟩, h1⟩, h1⟩, h1⟩, h1⟩, h1⟩, h1⟩, h2⟩, h2⟩, h2⟩, h2⟩, h2⟩, h2⟩, h2⟩, h2⟩, ⟨rfl, by exact ⟨hl, right_le h0⟩⟩⟩, h2⟩, h2⟩, h2⟩, h3⟩, h4⟩, h2⟩ rfl
        · skip
          rw [show (.bool (coversE a l b m) : Value) = Value.bool false from by unfold coversE; rw [← covers_on ha hl hb h0, h0, h1, h2, h3]; rfl]
          exact Rd.run pg (KB_ok x) (k38_4 x a l b m) ⟨⟨⟨⟨⟨⟨⟨⟨⟨⟨⟨⟨⟨⟨⟨⟨⟨⟨⟨⟨⟨⟨⟨⟨⟨trivial, ⟨rfl, by exact ⟨ha, hl⟩⟩⟩, h0⟩, h0⟩, ⟨rfl, by exact ⟨hb, hm⟩⟩⟩, h0⟩, h1⟩, h1⟩, h1⟩, h1⟩, h1⟩, h1⟩, h2⟩, h2⟩, h2⟩, h2⟩, h2⟩, h2⟩, h2⟩, h2⟩, ⟨rfl, by exact ⟨hl, right_le h0⟩⟩⟩, h2⟩, h2⟩, h2⟩, h3⟩, h2⟩ rfl
      · skip
        rw [show (.bool (coversE a l b m) : Value) = Value.bool false from by unfold coversE; rw [h0, h1, h2]; simp]
        exact Rd.run pg (KB_ok x) (k38_3 x a l b m) ⟨⟨⟨⟨⟨⟨⟨⟨⟨⟨⟨⟨⟨⟨⟨⟨⟨⟨⟨⟨⟨⟨⟨trivial, ⟨rfl, by exact ⟨ha, hl⟩⟩⟩, h0⟩, h0⟩, ⟨rfl, by exact ⟨hb, hm⟩⟩⟩, h0⟩, h1⟩, h1⟩, h1⟩, h1⟩, h1⟩, h1⟩, h2⟩, h2⟩, h2⟩, h2⟩, h2⟩, h2⟩, h2⟩, h2⟩, h2⟩, h2⟩, h2⟩, h2⟩ rfl
    · skip
      rw [show (.bool (coversE a l b m) : Value) = Value.bool false from by unfold coversE; rw [h0, h1]; simp]
      exact Rd.run pg (KB_ok x) (k38_2 x a l b m) ⟨⟨⟨⟨⟨⟨⟨⟨⟨⟨⟨⟨⟨⟨⟨⟨⟨⟨⟨⟨⟨⟨⟨trivial, ⟨rfl, by exact ⟨ha, hl⟩⟩⟩, h0⟩, h0⟩, ⟨rfl, by exact ⟨hb, hm⟩⟩⟩, h0⟩, h1⟩, h1⟩, h1⟩, h1⟩, h1⟩, h1⟩, rfl⟩, rfl⟩, rfl⟩, rfl⟩, rfl⟩, rfl⟩, rfl⟩, rfl⟩, rfl⟩, rfl⟩, rfl⟩, rfl⟩ rfl
  · skip
    rw [show (.bool (coversE a l b m) : Value) = Value.bool false from by unfold coversE; rw [h0]; simp]
    exact Rd.run pg (KB_ok x) (k38_1 x a l b m) ⟨⟨⟨⟨⟨⟨⟨⟨⟨⟨⟨⟨⟨⟨⟨⟨⟨⟨⟨⟨⟨⟨trivial, ⟨rfl, by exact ⟨ha, hl⟩⟩⟩, h0⟩, h0⟩, h0⟩, rfl⟩, rfl⟩, rfl⟩, rfl⟩, rfl⟩, rfl⟩, rfl⟩, rfl⟩, rfl⟩, rfl⟩, rfl⟩, rfl⟩, rfl⟩, rfl⟩, rfl⟩, rfl⟩, rfl⟩, rfl⟩ rfl
noncomputable def rw20 (x : MX) (args : List Value) : Option (Value × Prop) := match args with
  | [.agg z0] => (pvOf z0).bind fun u => some (.bool (rightE u.1 u.2), pvOk u.1 u.2)
  | _ => none
theorem rw20_ok (x : MX) {args : List Value} {r : Value × Prop} (h : rw20 x args = some r) : flat r.1 = true ∧ args.all farV = true ∧ (r.2 → Rd Tryz.prog x.F 20 args r.1) := by
  unfold rw20 at h
  split at h
  · rename_i z0
    rw [Option.bind_eq_some_iff] at h
    obtain ⟨u, hu, h⟩ := h
    cases h
    rw [pvOf_eq hu]
    exact ⟨rfl, rfl, fun hp => rd20 hp.1 hp.2⟩
  · cases h
noncomputable def TB2 (x : MX) (f : FuncId) (args : List Value) : Option (Value × Prop) := if f == 20 then rw20 x args else TB x f args
theorem TB2_ok (x : MX) (f : FuncId) (args : List Value) (r : Value × Prop) (h : TB2 x f args = some r) : flat r.1 = true ∧ args.all farV = true ∧ (r.2 → Rd Tryz.prog x.F f args r.1) := by
  unfold TB2 at h
  by_cases e20 : (f == 20) = true
  · have hf : f = 20 := by simpa using e20
    subst hf
    exact rw20_ok x h
  rw [if_neg e20] at h
  exact TB_ok x f args r h
noncomputable def KB2 (x : MX) : Given := { Given.rds Given.nothing x.F (TB2 x) with fits := true }
theorem KB2_ok (x : MX) : GivenOk Tryz.prog (KB2 x) := frames_fits ((GivenOk.nothing _).rds (TB2_ok x)) true
def b22 : Code := ((Tryz.prog.funcs[22]?).bind (·.body)).getD .skip
def l22 : Code := loopB Tryz.prog 22 0
def e22 : Code := dropC 3 b22
theorem fn22 : (Tryz.prog.funcs[22]?).map (fun f => (f.body, f.results.toList, f.ntmps)) = some (some b22, [.tmp 4], 37) := by kernel_rfl
noncomputable abbrev a22 (a l b m : Int) : List Value := [pv a l, pv b m]
noncomputable def z22 (x : MX) (a l b m : Int) : St := { smSt 1 [some (.fam x.F)] [] with tmps := a22 a l b m ++ List.replicate (37 - (a22 a l b m).length) undef, defers := [] }
noncomputable def tm22 (v : VF) (a l b m : Int) (i : Nat) : List Value := (pv a l :: pv b m :: .pointer (some ⟨1, 0, none⟩) :: .pointer (some ⟨2, 0, none⟩) :: v 4 :: .int .i64 (nI i) :: vs v 6 31 [])
theorem tm22_dead {v : VF} {a l b m : Int} {i : Nat} {B : Nat → Bool} (h : ∀ i, DeadV (v i)) (hB : ∀ i, ((Nat.ble 0 i && Nat.ble i 3) || Nat.beq i 5) = true → B i = true) : deadT B 0 (tm22 v a l b m i) :=
  ⟨fun e => absurd e (by rw [hB 0 rfl]; decide), ⟨fun e => absurd e (by rw [hB 1 rfl]; decide), ⟨fun e => absurd e (by rw [hB 2 rfl]; decide), ⟨fun e => absurd e (by rw [hB 3 rfl]; decide), ⟨fun _ => h 4, ⟨fun e => absurd e (by rw [hB 5 rfl]; decide), deadT_vs h 31 (trivial)⟩⟩⟩⟩⟩⟩
noncomputable def h22 (x : MX) (a l b m : Int) : Nat → Option Ob := fun i => match i with
  | 0 => some (.fam x.F)
  | 1 => some (.cells (.lit [.int .u32 a, .int .u8 l]) 24)
  | 2 => some (.cells (.lit [.int .u32 b, .int .u8 m]) 24)
  | _ => none
theorem h22_ok (x : MX) (a l b m : Int) : Go.Cln.RowsIn (h22 x a l b m) := by
  intro b n' w' g' t h
  unfold h22 at h
  split at h <;> first | (cases h; done) | cases h
noncomputable def s22 (x : MX) (a l b m : Int) (i : Nat) (v : VF) : St := ⟨tm22 v a l b m i, [], Tr.rebuild (h22 x a l b m) 3, 3, 1, [], fun _ => false, True, []⟩
noncomputable def go22 (K : Given) (c : Code) (s : St) (o : List (Option Bool)) : Option (Exit × St) := (mk Tryz.prog K 200).code 22 none c { s with obl := True, orc := o }
noncomputable def gd22 (K : Given) (s : St) (o : List (Option Bool)) : Option (St × Code) := down (mk Tryz.prog K 200) 22 none [2, 2, 3, 2, 0] b22 { s with obl := True, orc := o }
def WD22 (i : Nat) : Bool := Nat.beq i 4 || (Nat.ble 7 i && Nat.ble i 9) || (Nat.ble 11 i && Nat.ble i 20)
noncomputable def VD22 (v : VF) : VF := fun i => match Nat.beq i 6 with
  | true => .agg #[junk, junk]
  | false => match Nat.beq i 10 with
  | true => .agg #[junk, junk]
  | false => match WD22 i with
  | true => junk
  | false => v i
def BD22 (i : Nat) : Bool := ((Nat.ble 0 i && Nat.ble i 3) || Nat.beq i 5) || WD22 i || Nat.beq i 6 || Nat.beq i 10
theorem VD22_dead {v : VF} (h : ∀ i, DeadV (v i)) (i : Nat) : DeadV (VD22 v i) := by
  unfold VD22
  split
  · exact ⟨rfl, fun _ => rfl, fun _ => rfl⟩
  split
  · exact ⟨rfl, fun _ => rfl, fun _ => rfl⟩
  split
  · exact DeadV.junk
  · exact h i
theorem lvD22 (i : Nat) (h : ((Nat.ble 0 i && Nat.ble i 3) || Nat.beq i 5) = true) : BD22 i = true := by
  unfold BD22
  simp only [Bool.or_eq_true] at h ⊢
  refine .inl ?_
  refine .inl ?_
  exact .inl h
def WR22 (i : Nat) : Bool := (Nat.ble 21 i && Nat.ble i 36)
noncomputable def VR22 (v : VF) : VF := fun i => match WR22 i with
  | true => junk
  | false => v i
def BR22 (i : Nat) : Bool := ((Nat.ble 0 i && Nat.ble i 3) || Nat.beq i 5) || WR22 i
theorem VR22_dead {v : VF} (h : ∀ i, DeadV (v i)) (i : Nat) : DeadV (VR22 v i) := by
  unfold VR22
  split
  · exact DeadV.junk
  · exact h i
theorem lvR22 (i : Nat) (h : ((Nat.ble 0 i && Nat.ble i 3) || Nat.beq i 5) = true) : BR22 i = true := by
  unfold BR22
  simp only [Bool.or_eq_true] at h ⊢
  exact .inl h
def WX22 (i : Nat) : Bool := (Nat.ble 21 i && Nat.ble i 25)
noncomputable def VX22 (v : VF) : VF := fun i => match WX22 i with
  | true => junk
  | false => v i
def BX22 (i : Nat) : Bool := ((Nat.ble 0 i && Nat.ble i 3) || Nat.beq i 5) || WX22 i
theorem VX22_dead {v : VF} (h : ∀ i, DeadV (v i)) (i : Nat) : DeadV (VX22 v i) := by
  unfold VX22
  split
  · exact DeadV.junk
  · exact h i
theorem lvX22 (i : Nat) (h : ((Nat.ble 0 i && Nat.ble i 3) || Nat.beq i 5) = true) : BX22 i = true := by
  unfold BX22
  simp only [Bool.or_eq_true] at h ⊢
  exact .inl h
end
end ob
end Go.Proofs.YthpoeegoankpoaaGreat
namespace Go.Proofs.YthpoeegoankpoaaGreat
open Go.ChangeShapes Go.WideShapes Go.ChangeAt Go.RowKit Go.Cln
namespace ob
set_option linter.unusedVariables false
noncomputable section
theorem covers_e {a l b m : Int} (ha : 0 ≤ a ∧ a < 4294967296) (hl : 0 ≤ l) (hb : 0 ≤ b ∧ b < 4294967296) (h0 : (!rightE a l) = false) (h1 : (!rightE b m) = false) (h2 : decide (l > m) = false) : coversE a l b m = allB (fun i => !(bitI a (nI i) != bitI b (nI i))) l.toNat := by
  have h0 : rightE a l = true := by simpa using h0
  have h1 : rightE b m = true := by simpa using h1
  have h3 := of_decide_eq_false h2
  have h32 := right_le h0
  unfold coversE
  rw [h0, h1, decide_eq_true (show l ≤ m by omega), Bool.true_and, Bool.true_and]
  obtain ⟨k, rfl⟩ := Int.eq_ofNat_of_zero_le ha.1
  obtain ⟨j, rfl⟩ := Int.eq_ofNat_of_zero_le hb.1
  obtain ⟨q, rfl⟩ := Int.eq_ofNat_of_zero_le hl
  have key := covers_bits (a := k) (b := j) (l := q) (by omega) (by omega) (by omega)
  apply Bool.eq_iff_iff.2
  rw [Bool.true_and, decide_eq_true_eq, allB_iff]
  have e : ((j : Int) / 2 ^ (32 - (q : Int).toNat) = (k : Int) / 2 ^ (32 - (q : Int).toNat)) ↔ (j / 2 ^ (32 - q) = k / 2 ^ (32 - q)) := by
    rw [Int.toNat_natCast, show ((2 : Int) ^ (32 - q)) = ((2 ^ (32 - q) : Nat) : Int) by simp, ← Int.natCast_ediv, ← Int.natCast_ediv, Int.ofNat_inj]
  rw [e, ← key]
  constructor
  · intro h i hi
    have := h i (by simpa using hi)
    show (!(bitI (k : Int) ((i : Nat) : Int) != bitI (j : Int) ((i : Nat) : Int))) = true
    rw [this]; rfl
  · intro h i hi
    have : (!(bitI (k : Int) ((i : Nat) : Int) != bitI (j : Int) ((i : Nat) : Int))) = true := h i (by simpa using hi)
    simpa using this
def pD_22 (x : MX) (a l b m : Int) (i : Nat) : Prop := (((((True ∧ x.F = x.F ∧ (pvOk a l)) ∧ (!rightE a l) = false) ∧ x.F = x.F ∧ (pvOk b m)) ∧ (!rightE b m) = false) ∧ (decide (l > m)) = false)
def pR_22 (x : MX) (a l b m : Int) (i : Nat) : Prop := ((((((True ∧ IntKind.i64.wrap l = l) ∧ decide (nI i < l) = true) ∧ x.F = x.F ∧ ((0 ≤ a ∧ a < 4294967296) ∧ (0 ≤ nI i ∧ nI i ≤ 31))) ∧ x.F = x.F ∧ ((0 ≤ b ∧ b < 4294967296) ∧ (0 ≤ nI i ∧ nI i ≤ 31))) ∧ (bitI a (nI i) != bitI b (nI i)) = false) ∧ IntKind.i64.wrap (nI i + 1) = nI i + 1)
def pX_22 (x : MX) (a l b m : Int) (i : Nat) : Prop := ((True ∧ IntKind.i64.wrap l = l) ∧ decide (nI i < l) = false)
def pN0_22 (x : MX) (a l b m : Int) (i : Nat) : Prop := ((True ∧ x.F = x.F ∧ (pvOk a l)) ∧ (!rightE a l) = true)
def pN1_22 (x : MX) (a l b m : Int) (i : Nat) : Prop := ((((True ∧ x.F = x.F ∧ (pvOk a l)) ∧ (!rightE a l) = false) ∧ x.F = x.F ∧ (pvOk b m)) ∧ (!rightE b m) = true)
def pN2_22 (x : MX) (a l b m : Int) (i : Nat) : Prop := (((((True ∧ x.F = x.F ∧ (pvOk a l)) ∧ (!rightE a l) = false) ∧ x.F = x.F ∧ (pvOk b m)) ∧ (!rightE b m) = false) ∧ (decide (l > m)) = true)
def pF0_22 (x : MX) (a l b m : Int) (i : Nat) : Prop := (((((True ∧ IntKind.i64.wrap l = l) ∧ decide (nI i < l) = true) ∧ x.F = x.F ∧ ((0 ≤ a ∧ a < 4294967296) ∧ (0 ≤ nI i ∧ nI i ≤ 31))) ∧ x.F = x.F ∧ ((0 ≤ b ∧ b < 4294967296) ∧ (0 ≤ nI i ∧ nI i ≤ 31))) ∧ (bitI a (nI i) != bitI b (nI i)) = true)
def pE0_22 (x : MX) (a l b m : Int) (i : Nat) : Prop := True
theorem kD22 (x : MX) (a l b m : Int) : (gd22 (KB2 x) (z22 x a l b m) [some false, none, none, none, some false, none, none, none, none, none, some false]).map (fun r => (r.2, r.1.obl, seenInT BD22 r.1 (s22 x a l b m 0 (VD22 vU)) [0, 1, 2])) = some (.loop l22, pD_22 x a l b m 0, seenAsT BD22 (s22 x a l b m 0 (VD22 vU)) [0, 1, 2] 3) := by kernel_rfl
theorem kN0_22 (x : MX) (a l b m : Int) : ((mk Tryz.prog (KB2 x) 200).call 22 (a22 a l b m) (smSt 1 [some (.fam x.F)] [some true, none, none, none, none, none, none, none, none, none, none])).map (fun r => (r.1, r.2.obl)) = some (Value.bool false, pN0_22 x a l b m 0) := by kernel_rfl
theorem kN1_22 (x : MX) (a l b m : Int) : ((mk Tryz.prog (KB2 x) 200).call 22 (a22 a l b m) (smSt 1 [some (.fam x.F)] [some false, none, none, none, some true, none, none, none, none, none, none])).map (fun r => (r.1, r.2.obl)) = some (Value.bool false, pN1_22 x a l b m 0) := by kernel_rfl
theorem kN2_22 (x : MX) (a l b m : Int) : ((mk Tryz.prog (KB2 x) 200).call 22 (a22 a l b m) (smSt 1 [some (.fam x.F)] [some false, none, none, none, some false, none, none, none, none, none, some true])).map (fun r => (r.1, r.2.obl)) = some (Value.bool false, pN2_22 x a l b m 0) := by kernel_rfl
theorem kR22 (x : MX) (a l b m : Int) (i : Nat) (v : VF) : (go22 (KB2 x) l22 (s22 x a l b m i v) [some true, some true, some false, some true]).map (fun r => (r.1, r.2.obl, seenInT BR22 r.2 (s22 x a l b m (i + 1) (VR22 v)) [0, 1, 2])) = some (.normal, pR_22 x a l b m i, seenAsT BR22 (s22 x a l b m (i + 1) (VR22 v)) [0, 1, 2] 3) := by kernel_rfl
theorem kX22 (x : MX) (a l b m : Int) (i : Nat) (v : VF) : (go22 (KB2 x) l22 (s22 x a l b m i v) [some true, some false]).map (fun r => (r.1, r.2.obl, seenInT BX22 r.2 (s22 x a l b m i (VX22 v)) [0, 1, 2])) = some (.exit 0, pX_22 x a l b m i, seenAsT BX22 (s22 x a l b m i (VX22 v)) [0, 1, 2] 3) := by kernel_rfl
theorem kF0_22 (x : MX) (a l b m : Int) (i : Nat) (v : VF) : (go22 (KB2 x) l22 (s22 x a l b m i v) [some true, some true, some true]).bind (fun r => (results1 Tryz.prog r.2 [.tmp 4]).map fun q => (r.1, q.2.obl, r.2.defers, oneOf q.1)) = some (.ret, pF0_22 x a l b m i, [], .bool false) := by kernel_rfl
theorem kE0_22 (x : MX) (a l b m : Int) (i : Nat) (v : VF) : (go22 (KB2 x) e22 (s22 x a l b m i v) []).bind (fun r => (results1 Tryz.prog r.2 [.tmp 4]).map fun q => (r.1, q.2.obl, r.2.defers, oneOf q.1)) = some (.ret, pE0_22 x a l b m i, [], .bool true) := by kernel_rfl
theorem okD22 (x : MX) (a l b m : Int) (i : Nat) (v : VF) : picOkT BD22 (z22 x a l b m) (s22 x a l b m i (VD22 v)) [0, 1, 2] = true := by kernel_rfl
theorem okR22 (x : MX) (a l b m : Int) (i : Nat) (v : VF) : picOkT BR22 (z22 x a l b m) (s22 x a l b m i (VR22 v)) [0, 1, 2] = true := by kernel_rfl
theorem okX22 (x : MX) (a l b m : Int) (i : Nat) (v : VF) : picOkT BX22 (z22 x a l b m) (s22 x a l b m i (VX22 v)) [0, 1, 2] = true := by kernel_rfl
theorem up22 (x : MX) (a l b m : Int) (Q_ : Exit → St → Prop) : upQ Tryz.prog none (z22 x a l b m) [2, 2, 3, 2, 0] b22 Q_ = fun e s => (fun e s => (e = .normal ∧ StepG Tryz.prog none (z22 x a l b m) e22 s Q_) ∨ (e ≠ .normal ∧ Q_ e s)) (blockOut 0 e) s := by kernel_rfl
theorem rd22 {x : MX} {a l b m : Int} (ha : 0 ≤ a ∧ a < 4294967296) (hl : 0 ≤ l) (hb : 0 ≤ b ∧ b < 4294967296) (hm : 0 ≤ m) : Rd Tryz.prog x.F 22 (a22 a l b m) (.bool (coversE a l b m)) := by
  rcases Bool.eq_false_or_eq_true (!rightE a l) with e0 | e0
  · rw [show (.bool (coversE a l b m) : Value) = Value.bool false from by unfold coversE; have e0 : rightE a l = false := (by simpa using e0); rw [e0]; rfl]
    exact Rd.run pg (KB2_ok x) (kN0_22 x a l b m) (⟨⟨trivial, ⟨rfl, by exact ⟨ha, hl⟩⟩⟩, e0⟩) rfl
  rcases Bool.eq_false_or_eq_true (!rightE b m) with e1 | e1
  · rw [show (.bool (coversE a l b m) : Value) = Value.bool false from by unfold coversE; have e1 : rightE b m = false := (by simpa using e1); rw [e1]; simp]
    exact Rd.run pg (KB2_ok x) (kN1_22 x a l b m) (⟨⟨⟨⟨trivial, ⟨rfl, by exact ⟨ha, hl⟩⟩⟩, e0⟩, ⟨rfl, by exact ⟨hb, hm⟩⟩⟩, e1⟩) rfl
  rcases Bool.eq_false_or_eq_true (decide (l > m)) with e2 | e2
  · rw [show (.bool (coversE a l b m) : Value) = Value.bool false from by unfold coversE; have := of_decide_eq_true e2; rw [decide_eq_false (show ¬ l ≤ m by omega)]; simp]
    exact Rd.run pg (KB2_ok x) (kN2_22 x a l b m) (⟨⟨⟨⟨⟨trivial, ⟨rfl, by exact ⟨ha, hl⟩⟩⟩, e0⟩, ⟨rfl, by exact ⟨hb, hm⟩⟩⟩, e1⟩, e2⟩) rfl
  rw [covers_e ha hl hb e0 e1 e2]
  have h32 := right_le (a := a) (l := l) (by simpa using e0)
  refine find_rd (way := [2, 2, 3, 2, 0]) (pic := fun i v => s22 x a l b m i v) (e := fun i => !(bitI a (nI i) != bitI b (nI i))) (N := l.toNat) (v0 := VD22 vU) (s0 := z22 x a l b m) rfl fn22 rfl (fun Q_ h => StepG.downs pg (KB2_ok x) (kD22 x a l b m) (⟨⟨⟨⟨⟨trivial, ⟨rfl, by exact ⟨ha, hl⟩⟩⟩, e0⟩, ⟨rfl, by exact ⟨hb, hm⟩⟩⟩, e1⟩, e2⟩) (tm22_dead (VD22_dead vU_dead) lvD22) (h22_ok x a l b m) rfl (okD22 x a l b m 0 vU) h) (up22 x a l b m) (fun i v hv hi he => ?_) (fun i v hv hi hp he => ?_) (fun v hv => ?_) (fun hall v hv => ?_) (VD22_dead vU_dead)
  · refine (StepG.stdT (s0 := z22 x a l b m) (rd := none) pg (KB2_ok x) (kR22 x a l b m i v) ?_ (show 1 ≤ 3 by decide) (tm22_dead (VR22_dead hv) lvR22) (h22_ok x a l b m) rfl (okR22 x a l b m (i + 1) v)).mono ?_
    · exact ⟨⟨⟨⟨⟨⟨trivial, by rw [IntKind.wrap_i64]; omega⟩, decide_eq_true (by unfold nI; omega)⟩, ⟨rfl, ha, by unfold nI; omega⟩⟩, ⟨rfl, hb, by unfold nI; omega⟩⟩, by simpa using he⟩, by rw [IntKind.wrap_i64]; unfold nI; omega⟩
    · rintro ex s_ ⟨rfl, rfl⟩
      exact ⟨rfl, _, VR22_dead hv, rfl⟩
  · rw [allB_no he hi]
    exact StepG.ranV (s0 := z22 x a l b m) (rd := none) pg (KB2_ok x) (kF0_22 x a l b m i v) ⟨⟨⟨⟨⟨trivial, by rw [IntKind.wrap_i64]; omega⟩, decide_eq_true (by unfold nI; omega)⟩, ⟨rfl, ha, by unfold nI; omega⟩⟩, ⟨rfl, hb, by unfold nI; omega⟩⟩, by simpa using he⟩ (show 1 ≤ 3 by decide)
  · refine (StepG.stdT (s0 := z22 x a l b m) (rd := none) pg (KB2_ok x) (kX22 x a l b m l.toNat v) ⟨⟨trivial, by rw [IntKind.wrap_i64]; omega⟩, decide_eq_false (by unfold nI; omega)⟩ (show 1 ≤ 3 by decide) (tm22_dead (VX22_dead hv) lvX22) (h22_ok x a l b m) rfl (okX22 x a l b m l.toNat v)).mono ?_
    rintro ex s_ ⟨rfl, rfl⟩
    exact ⟨rfl, _, VX22_dead hv, rfl⟩
  · rw [allB_all hall]
    exact StepG.ranV (s0 := z22 x a l b m) (rd := none) pg (KB2_ok x) (kE0_22 x a l b m l.toNat v) trivial (show 1 ≤ 3 by decide)
noncomputable def rw22 (x : MX) (args : List Value) : Option (Value × Prop) := match args with
  | [.agg z0, .agg z1] => (pvOf z0).bind fun u => (pvOf z1).bind fun w => some (.bool (coversE u.1 u.2 w.1 w.2), pvOk u.1 u.2 ∧ pvOk w.1 w.2)
  | _ => none
theorem rw22_ok (x : MX) {args : List Value} {r : Value × Prop} (h : rw22 x args = some r) : flat r.1 = true ∧ args.all farV = true ∧ (r.2 → Rd Tryz.prog x.F 22 args r.1) := by
  unfold rw22 at h
  split at h
  · rename_i z0 z1
    rw [Option.bind_eq_some_iff] at h
    obtain ⟨u, hu, h⟩ := h
    rw [Option.bind_eq_some_iff] at h
    obtain ⟨w, hw, h⟩ := h
    cases h
    rw [pvOf_eq hu]
    rw [pvOf_eq hw]
    exact ⟨rfl, rfl, fun hp => rd22 hp.1.1 hp.1.2 hp.2.1 hp.2.2⟩
  · cases h
noncomputable def rw38 (x : MX) (args : List Value) : Option (Value × Prop) := match args with
  | [.agg z0, .agg z1] => (pvOf z0).bind fun u => (pvOf z1).bind fun w => some (.bool (coversE u.1 u.2 w.1 w.2), pvOk u.1 u.2 ∧ pvOk w.1 w.2)
  | _ => none
theorem rw38_ok (x : MX) {args : List Value} {r : Value × Prop} (h : rw38 x args = some r) : flat r.1 = true ∧ args.all farV = true ∧ (r.2 → Rd Tryz.prog x.F 38 args r.1) := by
  unfold rw38 at h
  split at h
  · rename_i z0 z1
    rw [Option.bind_eq_some_iff] at h
    obtain ⟨u, hu, h⟩ := h
    rw [Option.bind_eq_some_iff] at h
    obtain ⟨w, hw, h⟩ := h
    cases h
    rw [pvOf_eq hu]
    rw [pvOf_eq hw]
    exact ⟨rfl, rfl, fun hp => rd38 hp.1.1 hp.1.2 hp.2.1 hp.2.2⟩
  · cases h
noncomputable def TC (x : MX) (f : FuncId) (args : List Value) : Option (Value × Prop) := if f == 22 then rw22 x args else if f == 38 then rw38 x args else TB2 x f args
theorem TC_ok (x : MX) (f : FuncId) (args : List Value) (r : Value × Prop) (h : TC x f args = some r) : flat r.1 = true ∧ args.all farV = true ∧ (r.2 → Rd Tryz.prog x.F f args r.1) := by
  unfold TC at h
  by_cases e22 : (f == 22) = true
  · have hf : f = 22 := by simpa using e22
    subst hf
    exact rw22_ok x h
  rw [if_neg e22] at h
  by_cases e38 : (f == 38) = true
  · have hf : f = 38 := by simpa using e38
    subst hf
    exact rw38_ok x h
  rw [if_neg e38] at h
  exact TB2_ok x f args r h
end
end ob
end Go.Proofs.YthpoeegoankpoaaGreat
