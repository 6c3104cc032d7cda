/- Read off the code by the clean reading. -/
import Derived.Test.YtkcngffpnnlmeaaClnEp
import Derived.Test.YtkcngffpnnlmeaaClnEn
set_option linter.unusedVariables false
set_option linter.unusedSimpArgs false
set_option linter.deprecated false
set_option maxRecDepth 100000
namespace Go.Proofs.Ytkcngffpnnlmeaa
open Go.ChangeShapes Go.WideShapes Go.ChangeAt Go.RowKit Go.Cln
namespace ae
set_option linter.unusedVariables false
noncomputable section
structure RR where
  fs : List Int → Nat → Int
  sn : List Int → Nat → Int
  xr : LV → LV → Nat → Int
  mkb : List Int → LV → Nat → Int
  ok : List Int → Prop
def RR0 : RR := ⟨fst, snd, fun x y => keyF (intAt x) (intAt y), fun K x => enc K (intAt x), OkK⟩
theorem run23 (b k : Nat → Int) : ((mk Try.prog Given.nothing 200).call 23 [row16 b, row16 k] (St.start 0 .leaf [])).map (fun r => (r.1, r.2.obl)) = some (row16 (keyF b k), True) := by kernel_rfl
def FRf (T : RR) (f : FuncId) (args : List Value) (s : St) : Option Inst := if f == 12 then (match args with
  | [.slice (some ⟨b, o, none⟩) 16 c] => (match s.heap.get b with
    | some (.cells (.ints .u8 K) _) => some ⟨[(b, o)], 1, hK ((K.drop o).take 16), [.slice (some ⟨0, 0, none⟩) 16 c], .tuple #[row16 (T.fs ((K.drop o).take 16)), row16 (T.sn ((K.drop o).take 16))], hKn 73 ((K.drop o).take 16), T = RR0 ∧ T.ok ((K.drop o).take 16)⟩
    | _ => none)
  | _ => none) else if f == 23 then (match args with
  | [.agg x, .agg y] => if is16 x && is16 y then some (flI [.agg x, .agg y] (row16 (T.xr x.toList y.toList)) (T = RR0)) else none
  | _ => none) else if f == 27 then (match args with
  | [.slice (some ⟨b, o, none⟩) 16 c, .agg x] => if is16 x then (match s.heap.get b with
    | some (.cells (.ints .u8 K) _) => some ⟨[(b, o)], 1, hK ((K.drop o).take 16), [.slice (some ⟨0, 0, none⟩) 16 c, .agg x], row16 (T.mkb ((K.drop o).take 16) x.toList), hK' ((K.drop o).take 16), T = RR0 ∧ T.ok ((K.drop o).take 16)⟩
    | _ => none) else none
  | _ => none) else none
theorem FRf_ok (T : RR) (f : FuncId) (args : List Value) (s : St) (i : Inst) (h : FRf T f args s = some i) : Fits s i args ∧ (i.ask → CallOk Try.prog f i.args i.s0 i.val i.s1) := by
  unfold FRf at h
  split at h
  · rename_i hf
    have hf' : f = 12 := by simpa using hf
    subst hf'
    split at h
    · rename_i b o c
      split at h
      · rename_i K tb hb
        cases h
        refine ⟨fit_win hb rfl rfl rfl rfl, fun hT => ?_⟩
        obtain ⟨rfl, hk⟩ := hT
        exact rblocks_ok _ c hk
      · cases h
    · cases h
  · split at h
    · rename_i hf
      have hf' : f = 23 := by simpa using hf
      subst hf'
      split at h
      · rename_i x y
        split at h
        · rename_i hc
          rw [Bool.and_eq_true] at hc
          have ex := is16_row hc.1
          have ey := is16_row hc.2
          cases h
          refine flI_ok (by rw [ex, ey]; rfl) rfl fun hT W => ?_
          subst hT
          have := ranF pg (GivenOk.nothing _) (run23 (intAt x.toList) (intAt y.toList)) trivial rfl rfl W
          unfold row16 at this
          rw [← ex, ← ey] at this; exact this
        · cases h
      · cases h
    · split at h
      · rename_i hf
        have hf' : f = 27 := by simpa using hf
        subst hf'
        split at h
        · rename_i b o c x
          split at h
          · rename_i hc
            have ex := is16_row hc
            split at h
            · rename_i K tb hb
              cases h
              refine ⟨fit_win hb rfl rfl rfl (by rw [ex]; rfl), fun hT => ?_⟩
              obtain ⟨rfl, h1, h2⟩ := hT
              have := ref_ok ((K.drop o).take 16) c (intAt x.toList) h1 h2
              unfold row16 at this
              rw [← ex] at this; exact this
            · cases h
          · cases h
        · cases h
      · cases h
def KR (T : RR) : Given := { Given.frames Given.nothing (FRf T) with fits := true }
theorem KR_ok (T : RR) : GivenOk Try.prog (KR T) := frames_fits ((GivenOk.nothing _).frames (FRf_ok T)) true
def JA : Value := .agg ⟨J 16⟩
def hR (K : List Int) (c : Nat) (M : List Int) (q n d : Nat) (m : Int) (f1 f2 x : Nat → Int) (i : Int) : Nat → Option Ob := fun b => match b with
  | 0 => oI K
  | 1 => oI M
  | 2 => some (.cells (.lit (rowV .u8 16 Z0)) 25)
  | 76 => some (.cells (.lit (rowV .u8 16 f1)) 25)
  | 77 => some (.cells (.lit (rowV .u8 16 f2)) 25)
  | 78 => some (.cells (.lit (rowV .u8 16 x)) 25)
  | _ => none
def hd10 (K : List Int) (c : Nat) (M : List Int) (q n d : Nat) (m : Int) (f1 f2 x : Nat → Int) (i : Int) : LV := [sl 0 0 none 16 c, sl 1 q none n d, undef, undef, P0 2 0, P0 76 0, P0 77 0, .int .i64 m, P0 78 0, .int .i64 i]
def mid5 (f1 f2 : Nat → Int) : LV := [.tuple #[row16 f1, row16 f2], junk, .tuple #[row16 f1, row16 f2], row16 f1, row16 f2]
def stT (t : LV) (K : List Int) (c : Nat) (M : List Int) (q n d : Nat) (m : Int) (f1 f2 x : Nat → Int) (i : Int) : St := ⟨t, [], Tr.rebuild (hR K c M q n d m f1 f2 x i) 79, 79, 2, [], fun _ => false, True, []⟩
def RE (K : List Int) (c : Nat) (M : List Int) (q n d : Nat) (m : Int) (f1 f2 x : Nat → Int) (i : Int) : St := stT (hd10 K c M q n d m f1 f2 x i ++ (U 3 ++ (mid5 f1 f2 ++ (J 5 ++ U 54)))) K c M q n d m f1 f2 x i
def RL (K : List Int) (c : Nat) (M : List Int) (q n d : Nat) (m : Int) (f1 f2 x : Nat → Int) (i : Int) : St := stT (hd10 K c M q n d m f1 f2 x i ++ (J 3 ++ (mid5 f1 f2 ++ (J 5 ++ (J 33 ++ (U 2 ++ (J 1 ++ (U 3 ++ (J 4 ++ (U 5 ++ (J 1 ++ ([JA, JA, JA, JA] ++ U 1)))))))))))) K c M q n d m f1 f2 x i
noncomputable def bT : Code := loopB Try.prog 15 0
end
end ae
end Go.Proofs.Ytkcngffpnnlmeaa
namespace Go.Proofs.Ytkcngffpnnlmeaa
open Go.ChangeShapes Go.WideShapes Go.ChangeAt Go.RowKit Go.Cln
namespace ae
set_option linter.unusedVariables false
noncomputable section
def kk (i : Int) : Nat → Int
  | 0 => 16 * i
  | j + 1 => kk i j + 1
def wr (x : Int) : Prop := IntKind.i64.wrap x = x
def pIn (M : List Int) (q n : Nat) (i : Int) (p : Prop) : Nat → Prop
  | 0 => p
  | j + 1 => ((((((pIn M q n i p j ∧ decide (kk i j < (n : Int)) = true) ∧ wr (16 * i)) ∧ wr (16 * i + 16)) ∧ decide (kk i j < 16 * i + 16) = true) ∧ (0 ≤ kk i j ∧ kk i j < (n : Int))) ∧ q + (kk i j).toNat * 1 < M.length) ∧ wr (kk i j + 1)
def kR (K : List Int) : List Int := (K.drop 0).take 16
def pHd (m i : Int) : Prop := (True ∧ decide (i < m) = true) ∧ wr (16 * i)
def pFull (T : RR) (K M : List Int) (q n : Nat) (m i : Int) : Prop := ((((((((((pIn M q n i (pHd m i) 16 ∧ decide (kk i 16 < (n : Int)) = true) ∧ wr (16 * i)) ∧ wr (16 * i + 16)) ∧ decide (kk i 16 < 16 * i + 16) = false) ∧ wr (m - 1)) ∧ decide (i = m - 1) = false) ∧ wr (m - 1)) ∧ decide (i = m - 1) = false) ∧ T = RR0) ∧ (T = RR0 ∧ T.ok (kR K))) ∧ wr (i + 1)
def o14 : List (Option Bool) := [some true, none, none, some true, none, some true, none, none, some true, some true, some true, none, none, some true]
def oIn (r : Nat) : List (Option Bool) := [some true, some true] ++ (List.range r).flatMap fun _ => o14
def oFull : List (Option Bool) := oIn 16 ++ [some true, none, none, some true, none, some true, none, none, some false, some true, some false, none, none, none, some true, some false, some true]
def mB (M : List Int) (q : Nat) (i : Int) (j : Nat) : Int := M.getD (q + (kk i j).toNat * 1) 0
def xFull (T : RR) (K M : List Int) (q : Nat) (x : Nat → Int) (i : Int) : Nat → Int := T.mkb (kR K) (R16 (T.xr (R16 x) (R16 (mB M q i))))
theorem zE (T : RR) (K : List Int) (c : Nat) (M : List Int) (q n d : Nat) (m : Int) (f1 f2 x : Nat → Int) (i : Int) (x0 : Nat → Int) (i0 : Int) (rd : Option Nat) (hp : pFull T K M q n m i) :
    Step Try.prog rd (RE K c M q n d m f1 f2 x0 i0) bT (RE K c M q n d m f1 f2 x i) (fun e s => e = .normal ∧ s = RL K c M q n d m f1 f2 (xFull T K M q x i) (i + 1)) :=
  Step.std pg (KR_ok T) (n := 200) (f := 15) (σ := []) (o := oFull) (n1 := 150) (g := hR K c M q n d m f1 f2 (xFull T K M q x i) (i + 1)) (by kernel_rfl) hp (Nat.le_refl _) rfl (by kernel_rfl)
theorem zR (T : RR) (K : List Int) (c : Nat) (M : List Int) (q n d : Nat) (m : Int) (f1 f2 x : Nat → Int) (i : Int) (x0 : Nat → Int) (i0 : Int) (rd : Option Nat) (hp : pFull T K M q n m i) :
    Step Try.prog rd (RE K c M q n d m f1 f2 x0 i0) bT (RL K c M q n d m f1 f2 x i) (fun e s => e = .normal ∧ s = RL K c M q n d m f1 f2 (xFull T K M q x i) (i + 1)) :=
  Step.std pg (KR_ok T) (n := 200) (f := 15) (σ := []) (o := oFull) (n1 := 150) (g := hR K c M q n d m f1 f2 (xFull T K M q x i) (i + 1)) (by kernel_rfl) hp (Nat.le_refl _) rfl (by kernel_rfl)
end
end ae
end Go.Proofs.Ytkcngffpnnlmeaa
namespace Go.Proofs.Ytkcngffpnnlmeaa
open Go.ChangeShapes Go.WideShapes Go.ChangeAt Go.RowKit Go.Cln
namespace ae
set_option linter.unusedVariables false
noncomputable section
end
end ae
end Go.Proofs.Ytkcngffpnnlmeaa
namespace Go.Proofs.Ytkcngffpnnlmeaa
open Go.ChangeShapes Go.WideShapes Go.ChangeAt Go.RowKit Go.Cln
namespace ae
set_option linter.unusedVariables false
noncomputable section
theorem kk_eq (i : Int) : ∀ j, kk i j = 16 * i + (j : Int)
  | 0 => by show 16 * i = _; omega
  | j + 1 => by show kk i j + 1 = _; rw [kk_eq i j]; omega
end
end ae
end Go.Proofs.Ytkcngffpnnlmeaa
namespace Go.Proofs.Ytkcngffpnnlmeaa
open Go.ChangeShapes Go.WideShapes Go.ChangeAt Go.RowKit Go.Cln
namespace ae
set_option linter.unusedVariables false
noncomputable section
def askR (S : St) (f : FuncId) (c : Code) (_ : St) : Option Ask2 := if f == 15 then some ⟨⟨[14, 18, 19, 20, 21, 22], [], [], []⟩, .exit 0, fun _ => S⟩ else none
def h2 (K M : List Int) : List (Option Ob) := [oI K, oI M]
end
end ae
end Go.Proofs.Ytkcngffpnnlmeaa
namespace Go.Proofs.Ytkcngffpnnlmeaa
open Go.ChangeShapes Go.WideShapes Go.ChangeAt Go.RowKit Go.Cln
namespace ae
set_option linter.unusedVariables false
noncomputable section
abbrev GT := List Int → List Int → Nat → Int
def wd (K : List Int) (o n : Nat) : List Int := (K.drop o).take n
def okA (K M : List Int) (n : Nat) : Prop := OkK K ∧ M.length = n ∧ n ≤ 1000
def F9w (f : FuncId) (args : List Value) (_ : St) : Option Inst := if f == 9 then (match args with
  | [] => some (flI [] (.bool true) True)
  | _ => none) else none
theorem F9w_ok (f : FuncId) (args : List Value) (s : St) (i : Inst) (h : F9w f args s = some i) : Fits s i args ∧ (i.ask → CallOk Try.prog f i.args i.s0 i.val i.s1) := by
  unfold F9w at h
  split at h
  · rename_i hf
    have hf' : f = 9 := by simpa using hf
    subst hf'
    split at h
    · cases h
      exact flI_ok rfl rfl fun _ W => known W
    · cases h
  · cases h
end
end ae
end Go.Proofs.Ytkcngffpnnlmeaa
