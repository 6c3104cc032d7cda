/- Read off the code by the clean reading. -/
import Derived.Test.YtkcngffpnnlmeaaClnEq
import Derived.Test.YtkcngffpnnlmeaaClnQc
set_option linter.unusedVariables false
set_option linter.unusedSimpArgs false
set_option linter.deprecated false
set_option maxRecDepth 100000
namespace Go.Proofs.Ytkcngffpnnlmeaa
open Go.ChangeShapes Go.WideShapes Go.ChangeAt Go.RowKit Go.Cln
namespace ga
open ae
noncomputable section
def FD (D : Nat -> List Int) (g P : Nat) : Cells := match Nat.beq g 1000 with
 | true => .ints .u8 (D P)
 | false => .lit []
def ab (P o n c : Nat) : Value := .slice (some ⟨P, o, some 1000⟩) n c
def KI : Given := { Given.nothing with fits := true }
theorem KI_ok : GivenOk Try.prog KI := frames_fits (GivenOk.nothing _) true
def cR (D : Nat -> List Int) (P o n c : Nat) (L : List Int) (a d : Nat) (r : List (Option Bool)) : Option (Value × St) := (mk Try.prog KI 200).call 30 [sl 1 0 none 2 2] (smSt 3 [some (.fam (FD D)), some (.cells (.lit [sl 2 0 (some 1) a d, ab P o n c]) 22), some (.cells (.ints .u8 L) 5)] r)
open ae
def zE (n : Nat) : Nat := (IntKind.i64.wrap (IntKind.i64.wrap (0 + nI 0) + nI n - IntKind.i64.wrap (nI 0 - nI 0))).toNat
def hE (D : Nat -> List Int) (P o n c : Nat) : List (Option Ob) := [some (.fam (FD D)), some (.cells (.lit [.slice none 0 0, ab P o n c]) 22)]
def hE2 (D : Nat -> List Int) (P o n c : Nat) (I : List Int) : List (Option Ob) := [some (.fam (FD D)), some (.cells (.lit [.slice none 0 0, ab P o n c]) 22), some (.cells (.ints .u8 I) 5)]
def oR : List (Option Bool) := [none, none, some true, none, none, none, none, some true, none, none, none, none, some true, some true, some true, some true, none, none, none, some true, none, none, none, some true]
def zR (a n : Nat) : Nat := (IntKind.i64.wrap (0 + nI a + nI n - (nI 0 - nI 0))).toNat
def hR2 (D : Nat -> List Int) (P o n c : Nat) (L : List Int) (a d : Nat) (I : List Int) : List (Option Ob) := [some (.fam (FD D)), some (.cells (.lit [sl 2 0 (some 1) a d, ab P o n c]) 22), some (.cells (.ints .u8 L) 5), some (.cells (.ints .u8 I) 5)]
def iR (D : Nat -> List Int) (P o n : Nat) (L : List Int) (a : Nat) : List Int := layI (layI (List.replicate (zR a n) 0) (0 + 0) (List.take a (List.drop 0 L))) (0 + (0 + a)) (List.take n (List.drop o (D P)))
def wa (D : List Int) (o n : Nat) : List Int := (D.drop o).take n
theorem zR_eq {a n : Nat} (h : n <= 1000000) (g : a <= 1000000) : zR a n = a + n := by
 unfold zR
 simp only [nI, IntKind.wrap_i64]
 omega
theorem lay_len (L : List Int) (o : Nat) (r : List Int) (h : o + r.length <= L.length) : (layI L o r).length = L.length := by
 unfold layI
 simp only [List.length_append, List.length_take, List.length_drop]
 omega
open ae
open ae
def dl (P : Nat) (D : List Int) (Q : Nat) : List Int := if Q = P then D else []
def askE (S : St) (f : FuncId) (c : Code) (_ : St) : Option Ask2 := if f == 43 then some ⟨⟨[], [], [(8, [1, 12, 13, 14, 15])], [4]⟩, .ret, fun _ => S⟩ else none
def askR (S : St) (f : FuncId) (c : Code) (_ : St) : Option Ask2 := if f == 43 then some ⟨⟨[], [], [(9, [1, 12, 13, 14, 15])], [5]⟩, .ret, fun _ => S⟩ else none
def oF (D : Nat -> List Int) : Option Ob := some (.fam (FD D))
def oCi (ks : Nat -> Int) : Option Ob := some (.cells (.lit (rowV .u8 176 ks ++ [.bool true])) 84)
def oMa (f1 f2 x : Nat -> Int) (left : Value) : Option Ob := some (.cells (.lit (.pointer (some ⟨1, 0, none⟩) :: (rowV .u8 16 f1 ++ (rowV .u8 16 f2 ++ (rowV .u8 16 x ++ [left]))))) 70)
def oBy (L : List Int) : Option Ob := some (.cells (.ints .u8 L) 5)
open ae
def nw (D : Nat -> List Int) (P o n : Nat) : List Int := List.take n (List.drop o (dl P (D P) P))
def hE' (D : Nat -> List Int) (ks f1 f2 x : Nat -> Int) (l : Value) (k : Nat) : List (Option Ob) := [oF D, oCi ks, oMa f1 f2 x l] ++ List.replicate k none
def kR : List Bool := [true, true, true, true] ++ (List.replicate 7 false ++ [true])
open ae
def qn (n : Nat) : Nat := (n - 1) / 16
def rn (n : Nat) : Nat := n - 16 * ((n - 1) / 16)
theorem qr_eq {n : Nat} (h : 0 < n) : 16 * qn n + rn n = n /\ 0 < rn n /\ rn n <= 16 := by unfold qn rn; omega
def F18a (T : VT) (f : FuncId) (args : List Value) (s : St) : Option (Inst × Nat) := if f == 18 then (match args with
 | [.pointer (some ⟨m, 0, none⟩), .slice (some ⟨P, o, some 1000⟩) n c] => (match s.heap.get m with
  | some (.cells (.lit (.pointer (some ⟨ci, 0, none⟩) :: l)) _) => (match s.heap.get ci with
   | some (.cells (.lit lc) _) => (match s.heap.get 0 with
    | some (.fam F) => (match F 1000 P with
     | .ints .u8 D => if okC lc && isN 48 (l.take 48).toArray then (match l.drop 48 with
      | [.slice none 0 0] => (match s.orc with
       | some true :: _ => some (⟨[(0, 0), (ci, 0), (m, 0)], 2, [oF (dl P D), oC lc, oMc (P0 1 0 :: (l.take 48 ++ [.slice none 0 0]))], [P0 2 0, ab P o n c], .int .i64 0,
         [oF (dl P D), oC lc, oMc (P0 1 0 :: ((l.take 48).take 32 ++ (R16 (T.wx (lc.take 176) ((l.take 48).drop 32) (wa D o n)) ++ [sl 10 0 (some 1) (T.r n) (T.r n)])))] ++ (List.replicate 7 none ++ [oI (((wa D o n).drop (T.o n)).take (T.r n))]), T = VT0 /\ 0 < n /\ n <= 1000000 /\ (wa D o n).length = n⟩, 1)
       | some false :: _ => some (⟨[(0, 0), (ci, 0), (m, 0)], 2, [oF (dl P D), oC lc, oMc (P0 1 0 :: (l.take 48 ++ [.slice none 0 0]))], [P0 2 0, ab P o n c], .int .i64 0,
         [oF (dl P D), oC lc, oMc (P0 1 0 :: (l.take 48 ++ [.slice none 0 0]))] ++ List.replicate 5 none, n = 0⟩, 1)
       | _ => none)
      | [.slice (some ⟨z, 0, some 1⟩) a d] => (match s.heap.get z with
       | some (.cells (.ints .u8 M) _) => some (⟨[(0, 0), (ci, 0), (m, 0), (z, 0)], 2, [oF (dl P D), oC lc, oMc (P0 1 0 :: (l.take 48 ++ [sl 3 0 (some 1) a d])), oI M], [P0 2 0, ab P o n c], .int .i64 0,
         [oF (dl P D), oC lc, oMc (P0 1 0 :: ((l.take 48).take 32 ++ (R16 (T.wx (lc.take 176) ((l.take 48).drop 32) (M ++ wa D o n)) ++ [sl 11 0 (some 1) (T.r (a + n)) (T.r (a + n))]))), oI M] ++ (List.replicate 7 none ++ [oI (((M ++ wa D o n).drop (T.o (a + n))).take (T.r (a + n)))]),
         T = VT0 /\ d = a /\ 0 < a /\ a <= 1000000 /\ n <= 1000000 /\ a + n <= 1000000 /\ (wa D o n).length = n /\ M.length = a⟩, 0)
       | _ => none)
      | _ => none) else none
     | _ => none)
    | _ => none)
   | _ => none)
  | _ => none)
 | _ => none) else none
theorem oMc_eq {l : LV} {a bb cx : Nat -> Int} (p4 : l.take 48 = R16 a ++ (R16 bb ++ R16 cx)) (v : Value) : oMc (P0 1 0 :: (l.take 48 ++ [v])) = oMa a bb cx v := by
 rw [p4, List.append_assoc, List.append_assoc]; rfl
theorem oC_eq {lc : LV} (h : okC lc = true) : oC lc = oCi (intAt (lc.take 176)) := by
 unfold oC oCi; rw [← okC_eq h]
end
end ga
end Go.Proofs.Ytkcngffpnnlmeaa
